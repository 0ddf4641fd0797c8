import Derived.Test.YtnnclggeifnomaaGreatDoorCaB
set_option maxRecDepth 100000
set_option linter.all false
set_option maxHeartbeats 8000000
namespace Go.Proofs.YtnnclggeifnomaaGreatDoor
open Go.RowKit
theorem YmN(w:World)(c:Ch)(s:ChS)(l m:List Value)(t u v x:TypeId):
  let W:=(((w.alloc (.cells (chV c s).toArray t)).alloc (.cells l.toArray u)).alloc (.cells m.toArray v)).alloc (.cells zChC x)
  W.rangeAt w.heap.size 0 (chV c s)∧W.rangeAt (w.heap.size+1) 0 l∧W.rangeAt (w.heap.size+1+1) 0 m∧W.heap[w.heap.size+1+1+1]? =some (.cells zChC x (0,0))∧Below w.heap.size w W:=by
 intro W
 have h1:=Zae (l:=chV c s) (Vx0 w (.cells (chV c s).toArray t))
 have h2:=Zae (Vx0 (w.alloc (.cells (chV c s).toArray t)) (.cells l.toArray u))
 have h3:=Zae (Vx0 ((w.alloc (.cells (chV c s).toArray t)).alloc (.cells l.toArray u)) (.cells m.toArray v))
 have h4:=Vx0 (((w.alloc (.cells (chV c s).toArray t)).alloc (.cells l.toArray u)).alloc (.cells m.toArray v)) (.cells zChC x)
 simp only[Vx2]at h2 h3 h4
 exact⟨Zab (Zad _ _) (Zab (Zad _ _) (Zab (Zad _ _) h1)),Zab (Zad _ _) (Zab (Zad _ _) h2),Zab (Zad _ _) h3,h4,Zag (Zag (Zag (Zad _ _) (Zad _ _)) (Zad _ _)) (Zad _ _)⟩
def addE(c:Ch)(ds:List Dp)(xs:List Tx)(box:Dg):Int:=if mayC c=true then (if c.ls.length=256 then 9 else applyE c.t (topH c) ds xs box) else 8
def AddOk(c:Ch)(ds:List Dp)(xs:List Tx)(box:Dg)(cc:Ch):Prop:=
 if addE c ds xs box=0 then ∃o,ApplyOk c.t (topH c) ds xs box o∧cc=addC c o (applyH c.t (topH c) ds xs box) ds xs (applyR c.t (topH c) ds xs box) else cc=zCh
theorem YmU:Places Tryz.prog 77 (.agg zLkC) [(0,98),(98,1),(99,2),(101,1)]:=by unfold Places;kernel_rfl
theorem YmO(x:Hd)(r:Int)(D X R:Option Addr)(n d m e l q:Nat):Tryz.prog.built 77 [(0,.agg (hdC x).toArray),(1,.int .i64 r),(2,.agg #[.slice D n d,.slice X m e]),(3,.slice R l q)]=some (hdC x++[Value.int .i64 r,.slice D n d,.slice X m e,.slice R l q]).toArray:=by
 rw[Za5 YmU]
 have h:=Zgp (place:=fun i=>([(0,98),(98,1),(99,2),(101,1)]:List (Nat×Nat)).toArray[i]?) [hdC zH,[.int .i64 0],[.slice none 0 0,.slice none 0 0],[.slice none 0 0]] [.agg (hdC x).toArray,.int .i64 r,.agg #[.slice D n d,.slice X m e],.slice R l q] 0 [] (by
  refine⟨?_,?_,?_,?_,?_,?_,?_,?_,trivial⟩<;>simp[ZlC,Value.cells])
 exact h
theorem Ymz{α β:Type}[Enc α][Enc β]{E E2:TypeId}{w v:World}{A D:Option Addr}{c d N:Nat}{xs:List α}{ys:List β}(h:OwnR E v w.heap.size A c xs)(k:OwnR E2 v w.heap.size D d ys)(hN:N≤w.heap.size):
  ∃M T,OwnM E v M T A c xs∧OwnM E2 v M T D d ys∧N≤M∧T≤v.heap.size∧∀g,g<w.heap.size→g<M∨T≤g:=⟨_,_,OwnM.of h,OwnM.of k,hN,Vx8 _,fun g hg=>.inl hg⟩
theorem OwnM.far{α:Type}[Enc α]{E:TypeId}{w w':World}{M T g:Nat}{A:Option Addr}{c:Nat}{xs:List α}(h:OwnM E w M T A c xs)(hz:g<M∨T≤g)(hg:w.grownBy w' (some g)):OwnM E w' M T A c xs:=
 h.zone (R:=some ⟨g,0,none⟩) (fun a e=>by injection e with e;subst e;exact hz) hg
theorem Yna{F:Nat→Prop}{v w w':World}(h:Chg F v w)(k:Below v.heap.size w w'):Chg F v w':=
 ⟨k.os.trans h.os,k.tape.trans h.tape,k.output.trans h.output,Vx1 h.size k.size,fun b hb hn=>(k.block b hb).trans (h.block b hb hn)⟩
theorem Ymg{x y:Hd}(h:follows x y=true):x.ok:=by
 unfold follows at h
 simp only[Bool.and_eq_true]at h
 have:mayH x=true:=by first|exact h.1|exact h.1.1|exact h.1.1.1|exact h.2.1
 unfold mayH at this
 simp only[decide_eq_true_eq]at this
 exact⟨⟨by omega,by omega⟩,by omega,by omega⟩
theorem Yl9{t o:Tr}{x:Hd}{ds:List Dp}{xs:List Tx}{box:Dg}(h:applyE t x ds xs box=0)(ho:ApplyOk t x ds xs box o):I64 o.root:=by
 unfold ApplyOk at ho
 rw[if_pos h]at ho
 have h1:=ho.1
 unfold mayA at h1
 simp only[Bool.and_eq_true]at h1
 obtain⟨a1,a2,a3,_⟩:=ZaX.1 h1.1
 exact⟨by omega,by omega⟩
theorem Yla{P:Program}{α:Type}[Enc α]{S E:TypeId}{z:Value}{bytes:Nat}(hS:Slot P α S E z bytes)(hsm:Enc.size α≤16777216){w:World}{ops:Array Oper}{o:Oper}{a:Act}{K:Act→World→Prop}{Q:Exit→Act→World→Prop}{X:Prop}(hw:Region.wanted o (yielded ops a.tmps)=true)
  (x:Operand) (hop:o.op=.buildSlice S 1 #[(0,x)]) (cs:List Value) (hx:(a.eval x).cells=cs.toArray) (hcs:cs.length=Enc.size α)
  (hK:∀g w',w.heap.size≤g→w'.heap[g]? =some (.cells cs.toArray E (0,0))→Below w.heap.size w w'→K (a.put o.dst (.slice (some ⟨g,0,none⟩) 1 1)) w'):if Region.wanted o (yielded ops a.tmps)=true then Oper.wp P o a w K Q else X:=by
 rw[if_pos hw]
 exact Zea hS hsm x hop cs hx hcs (hK _ _ (Vx8 _) (Vx0 w _) (Zad w _))
theorem Ym3(A L:Option Addr)(n k l m:Nat)(r:Int):(#[Value.slice A n k,.int .i64 r,.slice L l m]:Array Value).all (·.oneCell')=true:=all_oneCell_toArray (cs:=[Value.slice A n k,.int .i64 r,.slice L l m]) fun u hu=>by
 simp only[List.mem_cons,List.not_mem_nil,or_false]at hu
 rcases hu with rfl|rfl|rfl<;>rfl
theorem YmF{α:Type}[Enc α]{F:Nat→Prop}{w:World}{x:α}{cs:List Value}{E:TypeId}{g:Nat}(h:Enc.rep F w x cs)(hg:w.heap[g]? =some (.cells cs.toArray E (0,0))):Src F w (some ⟨g,0,none⟩) [x]:=fun _=>
 ⟨g,0,rfl,fun j y hy=>by
  rcases j with _|j
  ·simp at hy
   subst hy
   exact⟨cs,h,by rw[Nat.zero_mul];exact Zae hg⟩
  ·simp at hy⟩
theorem Yl6(F Fd Fx:Nat→Prop)(c:Ch)(s:ChS)(D:Option Addr)(d:Nat)(ds:List Dp)(X:Option Addr)(e:Nat)(xs:List Tx)(box:Dg)(w:World)(hi:ChIn F w c s)(hb:ChB 50000 c)(hD:Row Fd w D ds)(hX:Row Fx w X xs)(ld:ds.length≤1000)(lx:xs.length≤1000)(hT:Tab w):
  Calls Tryz.prog 9 #[.agg (chV c s).toArray,.agg #[.slice D ds.length d,.slice X xs.length e],.agg (box.1.map bv).toArray] w fun r w'=>∃cc s',r=.returned (.tuple #[.agg (chV cc s').toArray,.int .i64 (addE c ds xs box)])∧ChOwn w' w.heap.size cc s'∧Below w.heap.size w w'∧AddOk c ds xs box cc:=by
 have huc:=Tryz.underlying27
 have hut:=Tryz.underlying24
 have huh:=Tryz.underlying51
 have hub:=Tryz.underlying35
 have hu:=Tryz.underlying37
 have hul:=Tryz.underlying77
 have hb1:ChB 1000000 c:=⟨by have:=hb.ns;omega,hb.ls,hb.xs⟩
 obtain⟨Y0,B0,S0,Z0,W0⟩:=YmN w c s [.slice D ds.length d,.slice X xs.length e] (box.1.map bv) 27 35 37 27
 have hiC:=hid (YkJ c s)
 have hiB:=hid (ZfA (.slice D ds.length d) (.slice X xs.length e))
 have I0:=hid ((hi.mono (G:=fun b=>b<w.heap.size) fun b _ h=>h).bel W0)
 have D0:=hid ((hD.mono (G:=fun b=>b<w.heap.size) fun b _ h=>h).bel W0)
 have X0:=hid ((hX.mono (G:=fun b=>b<w.heap.size) fun b _ h=>h).bel W0)
 have T0:=hid (hT.bel W0 hT.low)
 have hlow:=hid hT.low
 have hCk:=hid (fun W h1 h2=>YkQ (fun b=>b<w.heap.size) c s W h1 hb1 h2)
 obtain⟨q,hq⟩:∃v,mayC c=v:=⟨_,rfl⟩
 obtain⟨z,hz⟩:∃v,addE c ds xs box=v:=⟨_,rfl⟩
 rw[hz]
 obtain⟨P,hP⟩:∃P,AddOk c ds xs box=P:=⟨_,rfl⟩
 rw[hP]
 have hN:Hid (q=false→P zCh∧(8:Int)=z):=hid fun e=>by
  have h8:addE c ds xs box=8:=by unfold addE;rw[hq,e];rfl
  rw[← hP,←hz,h8]
  exact⟨by unfold AddOk;rw[if_neg (by rw[h8];decide)],rfl⟩
 have hF:Hid (q=true→c.ls.length=256→P zCh∧(9:Int)=z):=hid fun e e2=>by
  have h8:addE c ds xs box=9:=by unfold addE;rw[hq,e,if_pos rfl,if_pos e2]
  rw[← hP,←hz,h8]
  exact⟨by unfold AddOk;rw[if_neg (by rw[h8];decide)],rfl⟩
 have hE:Hid (q=true→c.ls.length≠256→applyE c.t (topH c) ds xs box=z):=hid fun e e2=>by
  rw[← hz]
  unfold addE
  rw[hq,e,if_pos rfl,if_neg e2]
 have hO:Hid (z≠0→P zCh):=hid fun e=>by
  rw[← hP]
  unfold AddOk
  rw[if_neg (by rw[hz];exact e)]
 have hY:Hid (z=0→∀o,ApplyOk c.t (topH c) ds xs box o→P (addC c o (applyH c.t (topH c) ds xs box) ds xs (applyR c.t (topH c) ds xs box))):=hid fun e o ho=>by
  rw[← hP]
  unfold AddOk
  rw[if_pos (hz.trans e)]
  exact⟨o,ho,rfl⟩
 have hvv:=hid (fun e:q=true=>Ylb (hq.trans e))
 rw[hq]at hCk
 replace W0:=hid W0
 replace Z0:=hid Z0
 replace B0:=hid B0
 replace S0:=hid S0
 replace Y0:=hid Y0
 have zb:=hid Ylf
 have zo:=hid (YkR zCh zChS)
 have zs:=hid (YkJ zCh zChS)
 clear hT hq hz hi hD hX hP
 go_enter Tryz.func9,Tryz.ntmps9
 go_wp2_with (first
  |(with_reducible refine Zac rfl 27 rfl zChC YkN ?_)
  |(with_reducible refine lDr Y0.out hiC.out huc ?_))
 try simp only[Vx2]
 generalize (((w.alloc (.cells (chV c s).toArray 27)).alloc (.cells #[.slice D ds.length d,.slice X xs.length e] 35)).alloc (.cells (box.1.map bv).toArray 37)).alloc (.cells zChC 27)=w0 at *
 refine(hCk.out _ I0.out T0.out).mono ?_
 rintro r w1 ⟨rfl,hB⟩
 have I1:=hid (I0.out.bel hB)
 have D1:=hid (D0.out.bel hB)
 have X1:=hid (X0.out.bel hB)
 have T1:=hid (T0.out.bel hB (Vx4 hlow.out W0.out.size))
 have Z1:=hid ((hB.block _ (block_lt Z0.out)).trans Z0.out)
 have Y1:=hid (Zab hB Y0.out)
 have B1:=hid (Zab hB B0.out)
 have S1:=hid (Zab hB S0.out)
 have W1:=hid (W0.out.trans (hB.mono W0.out.size))
 clear hB hCk Z0 I0 W0 T0 Y0 B0 S0 D0 X0
 cases q with
 |false=>
  obtain⟨e1,e2⟩:=hN.out (by first|trivial|rfl)
  replace e1:=hid e1
  replace e2:=hid e2
  clear hF hE hO hY hvv
  go_wp2_with (first
   |((with_reducible refine Zaf rfl 27 _ rfl zChC [] ?_ ?_ ?_);exact zb.out;rfl)
   |((with_reducible refine stW 6 18 (w.heap.size+1+1+1) 27 zChC ?_ ?_ ?_ ?_ ?_);exact Z1.out;exact zs.out;rfl;exact zo.out;intro w2 hgS hbS hsS))
  exact Vy0 (YkK Tryz.results9 _ _ (w.heap.size+1+1+1) (chV zCh zChS) rfl (Zae hgS) huc rfl zs.out) rfl ⟨zCh,zChS,by rw[← e2.out];rfl,ChOwn.nil _ _,W1.out.grown hbS W1.out.size (fun g e=>by injection e with e;omega),e1.out⟩
 |true=>
  have l2:=(BoxC.of (show _ from Y1.out)).ls
  by_cases h256:c.ls.length=256
  ·obtain⟨e1,e2⟩:=hF.out (by first|trivial|rfl) h256
   replace e1:=hid e1
   replace e2:=hid e2
   have qb:((c.ls.length:Int)==256)=true:=by rw[h256];rfl
   replace h256:=hid h256
   clear hN hE hO hY hvv
   go_wp2_with (first
    |((with_reducible refine Zaf rfl 27 _ rfl zChC [] ?_ ?_ ?_);exact zb.out;rfl)
    |((with_reducible refine stW 6 24 (w.heap.size+1+1+1) 27 zChC ?_ ?_ ?_ ?_ ?_);exact Z1.out;exact zs.out;rfl;exact zo.out;intro w2 hgS hbS hsS))
   exact Vy0 (YkK Tryz.results9 _ _ (w.heap.size+1+1+1) (chV zCh zChS) rfl (Zae hgS) huc rfl zs.out) rfl ⟨zCh,zChS,by rw[← e2.out];rfl,ChOwn.nil _ _,W1.out.grown hbS W1.out.size (fun g e=>by injection e with e;omega),e1.out⟩
  ·have qb:((c.ls.length:Int)==256)=false:=by rw[beq_eq_false_iff_ne];omega
   have hp:=(hvv.out (by first|trivial|rfl)).1
   have ht:=Yl2 hp
   have hlb:=hb.ls
   obtain⟨b,o,hL,s9,lk9,ok9⟩:=YkS I1.out.ls (show c.ls.length-1<c.ls.length by omega)
   have hE':=hE.out (by first|trivial|rfl) h256
   obtain⟨A,k',L,m⟩:=s
   dsimp only at hL
   subst hL
   have hLa:=hid (fun W=>YkT A c.t.ns.length k' c.t.root b o c.ls.length m hp (by omega) W)
   have R9:=hid lk9.hd
   have x9:=ok9.hd
   rw[ht]at hE' hY
   generalize (c.ls[c.ls.length-1]'(by omega)).h=th at *
   have jx:=hid (Zbu th)
   have hiT:=hid (show (Tryz.prog.info? 24).map (·.size)=some ([Value.slice A c.t.ns.length k',.int .i64 c.t.root]).length from Zah)
   have hiS:=hid (Zaz box)
   have y1t:=hid (BoxC.of (show _ from Y1.out)).t
   have hAp:=hid (fun W hR hD hX hT=>Zd6 (fun b=>b<w.heap.size) (fun b=>b<w.heap.size) (fun b=>b<w.heap.size) A k' c.t.ns c.t.root th D d ds X e xs box W x9 hR hb.ns hD hX ld lx hT z (applyH c.t th ds xs box) (applyR c.t th ds xs box) (ApplyOk c.t th ds xs box) hE' rfl rfl (fun o h=>h))
   have hk1:z=0→(applyH c.t th ds xs box).ok:=fun e=>Ymg (Ymt (hE'.trans e)).1
   generalize applyH c.t th ds xs box=H at *
   generalize applyR c.t th ds xs box=rs at *
   have aH:=hid (Zbg H)
   have zH':=hid (Zbw H)
   have oH:=hid (ZbM H)
   have lt1:=hid (block_lt Z1.out)
   have hok:=hid (fun e:z=0=>(⟨hk1 e,fun o ho=>Yl9 (hE'.trans e) ho⟩:H.ok∧∀o,ApplyOk c.t th ds xs box o→I64 o.root))
   clear hk1 lk9 ok9 x9 hE' ht hvv hN hF hE h256
   go_wp2
   refine rgB fun hHeld=>?_
   refine' tkP 0 rfl ?_
   refine' tkM 1 rfl (fun _ h=>Zab h y1t.out) hut hiT.out ?_
   refine' tkM 2 rfl (fun _ h=>Zab h Y1.out) huc hiC.out ?_
   refine' tkM 7 rfl (fun _ h=>Zab h B1.out) hub hiB.out ?_
   simp only[sQ]
   refine' tkM 8 rfl (fun _ h=>Zab h S1.out) hu hiS.out ?_
   simp only[sQ]
   apply shareK (T:=fun (K:World→(Tr)→(Option Addr)→(Nat)→(Option Addr)→(Nat)→(Nat)→(Nat)→(Nat)→(Nat)→Prop)=>∀(wq:World) (o9:Tr) (Ap:Option Addr) (cp:Nat) (Rp:Option Addr) (rp:Nat) (M9:Nat) (T9:Nat) (g5:Nat) (g6:Nat),Below w1.heap.size w1 wq→w1.heap.size≤g5→w1.heap.size≤g6→Hid (g5≠g6)→wq.heap[g5]? =some (.cells zTrC 24 (0,0))→wq.heap[g6]? =some (.cells zHdC 51 (0,0))→OwnM 106 wq M9 T9 Ap cp o9.ns→OwnM 148 wq M9 T9 Rp rp rs→Hid (ApplyOk c.t th ds xs box o9)→w1.heap.size≤M9→T9≤wq.heap.size→Hid (g5<M9∨T9≤g5)→Hid (g6<M9∨T9≤g6)→K wq o9 Ap cp Rp rp M9 T9 g5 g6)
   intro M6
   apply shareK (T:=fun (K:World→(Tr)→(Option Addr)→(Nat)→(Option Addr)→(Nat)→(Nat)→(Nat)→(Nat)→Prop)=>∀(wq:World) (o9:Tr) (Ap:Option Addr) (cp:Nat) (Rp:Option Addr) (rp:Nat) (M9:Nat) (T9:Nat) (g6:Nat),Below w1.heap.size w1 wq→w1.heap.size≤g6→wq.heap[g6]? =some (.cells zHdC 51 (0,0))→OwnM 106 wq M9 T9 Ap cp o9.ns→OwnM 148 wq M9 T9 Rp rp rs→Hid (ApplyOk c.t th ds xs box o9)→w1.heap.size≤M9→T9≤wq.heap.size→Hid (g6<M9∨T9≤g6)→K wq o9 Ap cp Rp rp M9 T9 g6)
   intro M5
   apply shareK (T:=fun (K:World→(Tr)→(Option Addr)→(Nat)→(Option Addr)→(Nat)→(Nat)→(Nat)→(Nat)→Prop)=>∀(wq:World) (o9:Tr) (Ap:Option Addr) (cp:Nat) (Rp:Option Addr) (rp:Nat) (M9:Nat) (T9:Nat) (g5:Nat),Below w1.heap.size w1 wq→w1.heap.size≤g5→wq.heap[g5]? =some (.cells zTrC 24 (0,0))→OwnM 106 wq M9 T9 Ap cp o9.ns→OwnM 148 wq M9 T9 Rp rp rs→Hid (ApplyOk c.t th ds xs box o9)→w1.heap.size≤M9→T9≤wq.heap.size→Hid (g5<M9∨T9≤g5)→K wq o9 Ap cp Rp rp M9 T9 g5)
   intro M4
   apply shareK (T:=fun (K:World→(Nat)→(Nat)→Prop)=>∀(wq:World) (g5:Nat) (g6:Nat),Below w1.heap.size w1 wq→w1.heap.size≤g5→w1.heap.size≤g6→Hid (g5≠g6)→wq.heap[g5]? =some (.cells zTrC 24 (0,0))→wq.heap[g6]? =some (.cells zHdC 51 (0,0))→K wq g5 g6)
   intro M3
   apply shareK (T:=fun (K:World→(Nat)→Prop)=>∀(wq:World) (g6:Nat),Below w1.heap.size w1 wq→w1.heap.size≤g6→wq.heap[g6]? =some (.cells zHdC 51 (0,0))→K wq g6)
   intro M2
   apply shareK (T:=fun (K:World→(Nat)→Prop)=>∀(wq:World) (g5:Nat),Below w1.heap.size w1 wq→w1.heap.size≤g5→wq.heap[g5]? =some (.cells zTrC 24 (0,0))→K wq g5)
   intro M1
   apply shareK (T:=fun (K:World→(Nat)→(Nat)→Prop)=>∀(wq:World) (g5:Nat) (g6:Nat),Below w1.heap.size w1 wq→w1.heap.size≤g5→w1.heap.size≤g6→Hid (g5≠g6)→wq.heap[g5]? =some (.cells zTrC 24 (0,0))→wq.heap[g6]? =some (.cells zHdC 51 (0,0))→K wq g5 g6)
   intro M0
   ·skip
    refine Yny 3 15 16 rfl rfl rfl (fun K hK=>?_) (fun K hK=>?_) (fun K hK=>?_)
    ·skip
     refine clB hK (hLa.out _) fun v3 hB hHeld=>?_
     try have e5:=(hB.block _ (block_lt e5)).trans e5
     try have e6:=(hB.block _ (block_lt e6)).trans e6
     clear hK K
     try simp only[sQ]
     refine' tkW 4 5 ?_
     refine' tkM 6 rfl (fun _ h=>Zab h R9.out) huh jx.out ?_
     simp only[sQ]
     refine Yny 9 15 16 rfl rfl rfl (fun K hK=>?_) (fun K hK=>?_) (fun K hK=>?_)
     ·skip
      go_simp
      refine(hAp.out _ (I1.out.ns.bel hHeld) (D1.out.bel hHeld) (X1.out.bel hHeld) (T1.out.bel hHeld (Vx4 hlow.out W1.out.size))).mono ?_
      rintro r v9 ⟨o9,Ap,cp,Rp,rp,rfl,a9,r9,hB,k9⟩
      obtain⟨M9,T9,a9,r9,b9,t9,q9⟩:=Ymz a9 r9 hHeld.size
      replace k9:=hid k9
      try have z5:=hid (q9 _ (block_lt e5))
      try have z6:=hid (q9 _ (block_lt e6))
      try have e5:=(hB.block _ (block_lt e5)).trans e5
      try have e6:=(hB.block _ (block_lt e6)).trans e6
      go_wp2_with fail
      refine kB hK hHeld hB fun hHeld=>?_
      clear hK K
      try simp only[sQ]
      refine' tkW 10 11 ?_
      refine' tkW 12 13 ?_
      simp only[sQ]
      refine' tkP 14 rfl ?_
      simp only[sQ]
      refine Ynx 15 16 rfl rfl (fun K hK=>?_) (fun K hK=>?_)
      ·skip
       refine Zar rfl 24 rfl zTrC Zas ?_
       intro g5 v5 j5 e5 hB
       have m5:=Vx1 hHeld.size j5
       try have n56:=hid (show g5≠g6 from by have:=block_lt e6;omega)
       try have n56:=hid (show g5≠g6 from by have:=block_lt d6;omega)
       try have z5:=hid (Or.inr (Vx1 t9 j5):g5<M9∨T9≤g5)
       try have t9:=Vx1 t9 hB.size
       try have a9:=a9.bel hB
       try have r9:=r9.bel hB
       try have e6:=(hB.block _ (block_lt e6)).trans e6
       refine kB hK hHeld hB fun hHeld=>?_
       clear hK K
       try simp only[sQ]
       exact M4 _ o9 Ap cp Rp rp M9 T9 g5 hHeld m5 e5 a9 r9 k9 b9 t9 z5
      ·skip
       refine Zar rfl 51 rfl zHdC Za9 ?_
       intro g6 v6 j6 e6 hB
       have m6:=Vx1 hHeld.size j6
       try have n56:=hid (show g5≠g6 from by have:=block_lt e5;omega)
       try have n56:=hid (show g5≠g6 from by have:=block_lt d5;omega)
       try have z6:=hid (Or.inr (Vx1 t9 j6):g6<M9∨T9≤g6)
       try have t9:=Vx1 t9 hB.size
       try have a9:=a9.bel hB
       try have r9:=r9.bel hB
       try have e5:=(hB.block _ (block_lt e5)).trans e5
       try have d5:=(hB.block _ (block_lt d5)).trans d5
       refine kB hK hHeld hB fun hHeld=>?_
       clear hK K
       try simp only[sQ]
       exact M5 _ o9 Ap cp Rp rp M9 T9 g6 hHeld m6 e6 a9 r9 k9 b9 t9 z6
     ·skip
      refine Zar rfl 24 rfl zTrC Zas ?_
      intro g5 v5 j5 e5 hB
      have m5:=Vx1 hHeld.size j5
      try have n56:=hid (show g5≠g6 from by have:=block_lt e6;omega)
      try have n56:=hid (show g5≠g6 from by have:=block_lt d6;omega)
      try have z5:=hid (Or.inr (Vx1 t9 j5):g5<M9∨T9≤g5)
      try have t9:=Vx1 t9 hB.size
      try have a9:=a9.bel hB
      try have r9:=r9.bel hB
      try have e6:=(hB.block _ (block_lt e6)).trans e6
      refine kB hK hHeld hB fun hHeld=>?_
      clear hK K
      try simp only[sQ]
      exact M1 _ g5 hHeld m5 e5
     ·skip
      refine Zar rfl 51 rfl zHdC Za9 ?_
      intro g6 v6 j6 e6 hB
      have m6:=Vx1 hHeld.size j6
      try have n56:=hid (show g5≠g6 from by have:=block_lt e5;omega)
      try have n56:=hid (show g5≠g6 from by have:=block_lt d5;omega)
      try have z6:=hid (Or.inr (Vx1 t9 j6):g6<M9∨T9≤g6)
      try have t9:=Vx1 t9 hB.size
      try have a9:=a9.bel hB
      try have r9:=r9.bel hB
      try have e5:=(hB.block _ (block_lt e5)).trans e5
      try have d5:=(hB.block _ (block_lt d5)).trans d5
      refine kB hK hHeld hB fun hHeld=>?_
      clear hK K
      try simp only[sQ]
      exact M2 _ g6 hHeld m6 e6
    ·skip
     refine Zar rfl 24 rfl zTrC Zas ?_
     intro g5 v5 j5 e5 hB
     have m5:=Vx1 hHeld.size j5
     try have n56:=hid (show g5≠g6 from by have:=block_lt e6;omega)
     try have n56:=hid (show g5≠g6 from by have:=block_lt d6;omega)
     try have z5:=hid (Or.inr (Vx1 t9 j5):g5<M9∨T9≤g5)
     try have t9:=Vx1 t9 hB.size
     try have a9:=a9.bel hB
     try have r9:=r9.bel hB
     try have e6:=(hB.block _ (block_lt e6)).trans e6
     refine kB hK hHeld hB fun hHeld=>?_
     clear hK K
     try simp only[sQ]
     refine Ynx 3 16 rfl rfl (fun K hK=>?_) (fun K hK=>?_)
     ·skip
      refine clB hK (hLa.out _) fun v3 hB hHeld=>?_
      try have e5:=(hB.block _ (block_lt e5)).trans e5
      try have e6:=(hB.block _ (block_lt e6)).trans e6
      clear hK K
      try simp only[sQ]
      refine' tkW 4 5 ?_
      refine' tkM 6 rfl (fun _ h=>Zab h R9.out) huh jx.out ?_
      simp only[sQ]
      exact M1 _ g5 hHeld m5 e5
     ·skip
      refine Zar rfl 51 rfl zHdC Za9 ?_
      intro g6 v6 j6 e6 hB
      have m6:=Vx1 hHeld.size j6
      try have n56:=hid (show g5≠g6 from by have:=block_lt e5;omega)
      try have n56:=hid (show g5≠g6 from by have:=block_lt d5;omega)
      try have z6:=hid (Or.inr (Vx1 t9 j6):g6<M9∨T9≤g6)
      try have t9:=Vx1 t9 hB.size
      try have a9:=a9.bel hB
      try have r9:=r9.bel hB
      try have e5:=(hB.block _ (block_lt e5)).trans e5
      try have d5:=(hB.block _ (block_lt d5)).trans d5
      refine kB hK hHeld hB fun hHeld=>?_
      clear hK K
      try simp only[sQ]
      exact M0 _ g5 g6 hHeld m5 m6 n56 e5 e6
    ·skip
     refine Zar rfl 51 rfl zHdC Za9 ?_
     intro g6 v6 j6 e6 hB
     have m6:=Vx1 hHeld.size j6
     try have n56:=hid (show g5≠g6 from by have:=block_lt e5;omega)
     try have n56:=hid (show g5≠g6 from by have:=block_lt d5;omega)
     try have z6:=hid (Or.inr (Vx1 t9 j6):g6<M9∨T9≤g6)
     try have t9:=Vx1 t9 hB.size
     try have a9:=a9.bel hB
     try have r9:=r9.bel hB
     try have e5:=(hB.block _ (block_lt e5)).trans e5
     try have d5:=(hB.block _ (block_lt d5)).trans d5
     refine kB hK hHeld hB fun hHeld=>?_
     clear hK K
     try simp only[sQ]
     refine Ynx 3 15 rfl rfl (fun K hK=>?_) (fun K hK=>?_)
     ·skip
      refine clB hK (hLa.out _) fun v3 hB hHeld=>?_
      try have e5:=(hB.block _ (block_lt e5)).trans e5
      try have e6:=(hB.block _ (block_lt e6)).trans e6
      clear hK K
      try simp only[sQ]
      refine' tkW 4 5 ?_
      refine' tkM 6 rfl (fun _ h=>Zab h R9.out) huh jx.out ?_
      simp only[sQ]
      exact M2 _ g6 hHeld m6 e6
     ·skip
      refine Zar rfl 24 rfl zTrC Zas ?_
      intro g5 v5 j5 e5 hB
      have m5:=Vx1 hHeld.size j5
      try have n56:=hid (show g5≠g6 from by have:=block_lt e6;omega)
      try have n56:=hid (show g5≠g6 from by have:=block_lt d6;omega)
      try have z5:=hid (Or.inr (Vx1 t9 j5):g5<M9∨T9≤g5)
      try have t9:=Vx1 t9 hB.size
      try have a9:=a9.bel hB
      try have r9:=r9.bel hB
      try have e6:=(hB.block _ (block_lt e6)).trans e6
      refine kB hK hHeld hB fun hHeld=>?_
      clear hK K
      try simp only[sQ]
      exact M0 _ g5 g6 hHeld m5 m6 n56 e5 e6
   ·skip
    intro wq g5 g6 hHeld m5 m6 n56 e5 e6
    refine rdC 3 rfl (hLa.out _) fun v3 hB hHeld=>?_
    try have e5:=(hB.block _ (block_lt e5)).trans e5
    try have e6:=(hB.block _ (block_lt e6)).trans e6
    try simp only[sQ]
    refine' tkW 4 5 ?_
    refine' tkM 6 rfl (fun _ h=>Zab h R9.out) huh jx.out ?_
    simp only[sQ]
    exact M3 _ g5 g6 hHeld m5 m6 n56 e5 e6
   ·skip
    intro wq g5 hHeld m5 e5
    refine Ynx 9 16 rfl rfl (fun K hK=>?_) (fun K hK=>?_)
    ·skip
     go_simp
     refine(hAp.out _ (I1.out.ns.bel hHeld) (D1.out.bel hHeld) (X1.out.bel hHeld) (T1.out.bel hHeld (Vx4 hlow.out W1.out.size))).mono ?_
     rintro r v9 ⟨o9,Ap,cp,Rp,rp,rfl,a9,r9,hB,k9⟩
     obtain⟨M9,T9,a9,r9,b9,t9,q9⟩:=Ymz a9 r9 hHeld.size
     replace k9:=hid k9
     try have z5:=hid (q9 _ (block_lt e5))
     try have z6:=hid (q9 _ (block_lt e6))
     try have e5:=(hB.block _ (block_lt e5)).trans e5
     try have e6:=(hB.block _ (block_lt e6)).trans e6
     go_wp2_with fail
     refine kB hK hHeld hB fun hHeld=>?_
     clear hK K
     try simp only[sQ]
     refine' tkW 10 11 ?_
     refine' tkW 12 13 ?_
     simp only[sQ]
     refine' tkP 14 rfl ?_
     simp only[sQ]
     exact M4 _ o9 Ap cp Rp rp M9 T9 g5 hHeld m5 e5 a9 r9 k9 b9 t9 z5
    ·skip
     refine Zar rfl 51 rfl zHdC Za9 ?_
     intro g6 v6 j6 e6 hB
     have m6:=Vx1 hHeld.size j6
     try have n56:=hid (show g5≠g6 from by have:=block_lt e5;omega)
     try have n56:=hid (show g5≠g6 from by have:=block_lt d5;omega)
     try have z6:=hid (Or.inr (Vx1 t9 j6):g6<M9∨T9≤g6)
     try have t9:=Vx1 t9 hB.size
     try have a9:=a9.bel hB
     try have r9:=r9.bel hB
     try have e5:=(hB.block _ (block_lt e5)).trans e5
     try have d5:=(hB.block _ (block_lt d5)).trans d5
     refine kB hK hHeld hB fun hHeld=>?_
     clear hK K
     try simp only[sQ]
     exact M3 _ g5 g6 hHeld m5 m6 n56 e5 e6
   ·skip
    intro wq g6 hHeld m6 e6
    refine Ynx 9 15 rfl rfl (fun K hK=>?_) (fun K hK=>?_)
    ·skip
     go_simp
     refine(hAp.out _ (I1.out.ns.bel hHeld) (D1.out.bel hHeld) (X1.out.bel hHeld) (T1.out.bel hHeld (Vx4 hlow.out W1.out.size))).mono ?_
     rintro r v9 ⟨o9,Ap,cp,Rp,rp,rfl,a9,r9,hB,k9⟩
     obtain⟨M9,T9,a9,r9,b9,t9,q9⟩:=Ymz a9 r9 hHeld.size
     replace k9:=hid k9
     try have z5:=hid (q9 _ (block_lt e5))
     try have z6:=hid (q9 _ (block_lt e6))
     try have e5:=(hB.block _ (block_lt e5)).trans e5
     try have e6:=(hB.block _ (block_lt e6)).trans e6
     go_wp2_with fail
     refine kB hK hHeld hB fun hHeld=>?_
     clear hK K
     try simp only[sQ]
     refine' tkW 10 11 ?_
     refine' tkW 12 13 ?_
     simp only[sQ]
     refine' tkP 14 rfl ?_
     simp only[sQ]
     exact M5 _ o9 Ap cp Rp rp M9 T9 g6 hHeld m6 e6 a9 r9 k9 b9 t9 z6
    ·skip
     refine Zar rfl 24 rfl zTrC Zas ?_
     intro g5 v5 j5 e5 hB
     have m5:=Vx1 hHeld.size j5
     try have n56:=hid (show g5≠g6 from by have:=block_lt e6;omega)
     try have n56:=hid (show g5≠g6 from by have:=block_lt d6;omega)
     try have z5:=hid (Or.inr (Vx1 t9 j5):g5<M9∨T9≤g5)
     try have t9:=Vx1 t9 hB.size
     try have a9:=a9.bel hB
     try have r9:=r9.bel hB
     try have e6:=(hB.block _ (block_lt e6)).trans e6
     refine kB hK hHeld hB fun hHeld=>?_
     clear hK K
     try simp only[sQ]
     exact M3 _ g5 g6 hHeld m5 m6 n56 e5 e6
   ·skip
    intro wq g5 g6 hHeld m5 m6 n56 e5 e6
    refine rdH 9 rfl fun K hK=>?_
    go_simp
    refine(hAp.out _ (I1.out.ns.bel hHeld) (D1.out.bel hHeld) (X1.out.bel hHeld) (T1.out.bel hHeld (Vx4 hlow.out W1.out.size))).mono ?_
    rintro r v9 ⟨o9,Ap,cp,Rp,rp,rfl,a9,r9,hB,k9⟩
    obtain⟨M9,T9,a9,r9,b9,t9,q9⟩:=Ymz a9 r9 hHeld.size
    replace k9:=hid k9
    try have z5:=hid (q9 _ (block_lt e5))
    try have z6:=hid (q9 _ (block_lt e6))
    try have e5:=(hB.block _ (block_lt e5)).trans e5
    try have e6:=(hB.block _ (block_lt e6)).trans e6
    go_wp2_with fail
    refine kB hK hHeld hB fun hHeld=>?_
    clear hK K
    try simp only[sQ]
    refine' tkW 10 11 ?_
    refine' tkW 12 13 ?_
    simp only[sQ]
    refine' tkP 14 rfl ?_
    simp only[sQ]
    exact M6 _ o9 Ap cp Rp rp M9 T9 g5 g6 hHeld m5 m6 n56 e5 e6 a9 r9 k9 b9 t9 z5 z6
   ·skip
    intro wq o9 Ap cp Rp rp M9 T9 g5 hHeld m5 e5 a9 r9 k9 b9 t9 z5
    refine rdH 16 rfl fun K hK=>?_
    refine Zar rfl 51 rfl zHdC Za9 ?_
    intro g6 v6 j6 e6 hB
    have m6:=Vx1 hHeld.size j6
    try have n56:=hid (show g5≠g6 from by have:=block_lt e5;omega)
    try have n56:=hid (show g5≠g6 from by have:=block_lt d5;omega)
    try have z6:=hid (Or.inr (Vx1 t9 j6):g6<M9∨T9≤g6)
    try have t9:=Vx1 t9 hB.size
    try have a9:=a9.bel hB
    try have r9:=r9.bel hB
    try have e5:=(hB.block _ (block_lt e5)).trans e5
    try have d5:=(hB.block _ (block_lt d5)).trans d5
    refine kB hK hHeld hB fun hHeld=>?_
    clear hK K
    try simp only[sQ]
    exact M6 _ o9 Ap cp Rp rp M9 T9 g5 g6 hHeld m5 m6 n56 e5 e6 a9 r9 k9 b9 t9 z5 z6
   ·skip
    intro wq o9 Ap cp Rp rp M9 T9 g6 hHeld m6 e6 a9 r9 k9 b9 t9 z6
    refine rdH 15 rfl fun K hK=>?_
    refine Zar rfl 24 rfl zTrC Zas ?_
    intro g5 v5 j5 e5 hB
    have m5:=Vx1 hHeld.size j5
    try have n56:=hid (show g5≠g6 from by have:=block_lt e6;omega)
    try have n56:=hid (show g5≠g6 from by have:=block_lt d6;omega)
    try have z5:=hid (Or.inr (Vx1 t9 j5):g5<M9∨T9≤g5)
    try have t9:=Vx1 t9 hB.size
    try have a9:=a9.bel hB
    try have r9:=r9.bel hB
    try have e6:=(hB.block _ (block_lt e6)).trans e6
    refine kB hK hHeld hB fun hHeld=>?_
    clear hK K
    try simp only[sQ]
    exact M6 _ o9 Ap cp Rp rp M9 T9 g5 g6 hHeld m5 m6 n56 e5 e6 a9 r9 k9 b9 t9 z5 z6
   intro wq o9 Ap cp Rp rp M9 T9 g5 g6 hHeld m5 m6 n56 e5 e6 a9 r9 k9 b9 t9 z5 z6
   refine rdH 17 rfl fun K hK=>?_
   refine Zaj rfl 24 (.tmp 9) (.tmp 36) rfl g5 _ rfl rfl 24 zTrC e5 Zah rfl (Zat _ _ _ _) ?_
   intro v7 d5 hG
   have a9:=a9.far z5.out hG
   have r9:=r9.far z5.out hG
   have t9:=Vx1 t9 hG.size
   try have e6:=(hG.block _ (block_lt e6) (by intro q;injection q with q;exact n56.out q.symm)).trans e6
   refine hK.out _ _ (hHeld.grown hG hHeld.size (by intro k hk;injection hk with hk;omega)) fun hHeld=>?_
   clear hK K
   try simp only[sQ]
   refine rdH 18 rfl fun K hK=>?_
   refine Zaj rfl 51 (.tmp 10) (.tmp 37) rfl g6 _ rfl rfl 51 zHdC e6 aH.out zH'.out oH.out ?_
   intro v8 d6 hG
   have a9:=a9.far z6.out hG
   have r9:=r9.far z6.out hG
   have t9:=Vx1 t9 hG.size
   have d5:=(hG.block _ (block_lt d5) (by intro q;injection q with q;exact n56.out q)).trans d5
   refine hK.out _ _ (hHeld.grown hG hHeld.size (by intro k hk;injection hk with hk;omega)) fun hHeld=>?_
   clear hK K
   try simp only[sQ]
   refine' tkW 19 20 ?_
   simp only[sQ]
   refine dnN ?_
   have s81:=hid hHeld.size
   have W8:=hid (W1.out.trans (hHeld.mono W1.out.size))
   have Z8:=hid ((hHeld.block _ lt1.out).trans Z1.out)
   have Y8:=hid (Zab hHeld Y1.out)
   have B8:=hid (Zab hHeld B1.out)
   have I8:=hid (I1.out.bel hHeld)
   have D8:=hid (D1.out.bel hHeld)
   have X8:=hid (X1.out.bel hHeld)
   clear W1 Y1 y1t B1 S1 I1 D1 X1 T1 hAp hLa R9 jx l2
   by_cases hz:z=0
   case neg=>
    have e1:=hid (hO.out hz)
    have qz:(z !=0)=true:=bne_iff_ne.2 hz
    replace hz:=hid hz
    clear hY hok k9 d5 d6 a9 r9
    go_wp2_with (first
     |((with_reducible refine Zaf rfl 27 _ rfl zChC [] ?_ ?_ ?_);exact zb.out;rfl)
     |((with_reducible refine stW 6 42 (w.heap.size+1+1+1) 27 zChC ?_ ?_ ?_ ?_ ?_);exact Z8.out;exact zs.out;rfl;exact zo.out;intro w2 hgS hbS hsS))
    exact Vy0 (YkK Tryz.results9 _ _ (w.heap.size+1+1+1) (chV zCh zChS) rfl (Zae hgS) huc rfl zs.out) rfl ⟨zCh,zChS,rfl,ChOwn.nil _ _,W8.out.grown hbS W8.out.size (fun g e=>by injection e with e;omega),e1.out⟩
   case pos=>
    subst hz
    have e1:=hid (hY.out rfl o9 k9.out)
    obtain⟨ok1,ok2⟩:=hok.out rfl
    have ok3:=hid (ok2 _ k9.out)
    replace ok1:=hid ok1
    have h6:=hid (Zae d6)
    have h5:=hid (Zae d5)
    have c5:=h5.out 1 _ rfl
    have d5':=hid d5
    replace a9:=hid a9
    replace r9:=hid r9
    have hiH:=hid (Zbu H)
    have hTb:=hid (fun W h1 h2=>Yk0 (fun b=>b<w.heap.size) (fun b=>b<w.heap.size) D d ds X e xs W h1 h2 (by omega) (by omega))
    have hbl:=hid (fun D4 d4 X4 x4=>(show Tryz.prog.built 77 [(0,.agg (hdC H).toArray),(1,.int .i64 o9.root),(2,.agg #[.slice D4 ds.length d4,.slice X4 xs.length x4]),(3,.slice Rp rs.length rp)]=some (lkC ⟨H,o9.root,ds,xs,rs⟩ ⟨D4,d4,X4,x4,Rp,rp⟩).toArray from YmO H o9.root D4 X4 Rp ds.length d4 xs.length x4 rs.length rp))
    have lt8:=hid (block_lt d5)
    clear hY hO hok k9 ok2 d5 d6
    go_wp2
    refine rgB fun hHeld=>?_
    refine' tkM 0 rfl (fun _ h=>Zab h h6.out) huh hiH.out ?_
    refine' tkP 1 rfl ?_
    refine' tkC 2 rfl c5 ?_
    refine' tkM 3 rfl (fun _ h=>Zab h B8.out) hub hiB.out ?_
    simp only[sQ]
    refine' tkP 5 rfl ?_
    simp only[sQ]
    apply shareK (T:=fun (K:World→(Option Addr)→(Nat)→(Option Addr)→(Nat)→(Nat)→(Nat)→(Nat)→Prop)=>∀(wq:World) (D4:Option Addr) (d4:Nat) (X4:Option Addr) (x4:Nat) (M4:Nat) (T4:Nat) (g7:Nat),Below v8.heap.size v8 wq→v8.heap.size≤g7→wq.heap[g7]? =some (.cells zLkC 77 (0,0))→OwnM 142 wq M4 T4 D4 d4 ds→OwnM 145 wq M4 T4 X4 x4 xs→v8.heap.size≤M4→T4≤wq.heap.size→Hid (g7<M4∨T4≤g7)→K wq D4 d4 X4 x4 M4 T4 g7)
    intro M0
    ·skip
     refine Ynx 4 7 rfl rfl (fun K hK=>?_) (fun K hK=>?_)
     ·skip
      go_simp
      refine(hTb.out _ (D8.out.bel hHeld) (X8.out.bel hHeld)).mono ?_
      rintro r v4 ⟨D4,d4,X4,x4,rfl,a4,p4,hB⟩
      obtain⟨M4,T4,a4,p4,b4,t4,q4⟩:=Ymz a4 p4 hHeld.size
      try have z7:=hid (q4 _ (block_lt e7))
      try have e7:=(hB.block _ (block_lt e7)).trans e7
      go_wp2_with fail
      refine kB hK hHeld hB fun hHeld=>?_
      clear hK K
      try simp only[sQ]
      refine' tkH 6 rfl (Yb1 (by rfl) _ _ rfl _ _ (hbl.out _ _ _ _) rfl) ?_
      simp only[sQ]
      refine rdH 7 rfl fun K hK=>?_
      refine Zar rfl 77 rfl zLkC YlW ?_
      intro g7 v7 j7 e7 hB
      have m7:=Vx1 hHeld.size j7
      try have z7:=hid (Or.inr (Vx1 t4 j7):g7<M4∨T4≤g7)
      try have t4:=Vx1 t4 hB.size
      try have a4:=a4.bel hB
      try have p4:=p4.bel hB
      refine kB hK hHeld hB fun hHeld=>?_
      clear hK K
      try simp only[sQ]
      exact M0 _ D4 d4 X4 x4 M4 T4 g7 hHeld m7 e7 a4 p4 b4 t4 z7
     ·skip
      refine Zar rfl 77 rfl zLkC YlW ?_
      intro g7 v7 j7 e7 hB
      have m7:=Vx1 hHeld.size j7
      try have z7:=hid (Or.inr (Vx1 t4 j7):g7<M4∨T4≤g7)
      try have t4:=Vx1 t4 hB.size
      try have a4:=a4.bel hB
      try have p4:=p4.bel hB
      refine kB hK hHeld hB fun hHeld=>?_
      clear hK K
      try simp only[sQ]
      refine rdH 4 rfl fun K hK=>?_
      go_simp
      refine(hTb.out _ (D8.out.bel hHeld) (X8.out.bel hHeld)).mono ?_
      rintro r v4 ⟨D4,d4,X4,x4,rfl,a4,p4,hB⟩
      obtain⟨M4,T4,a4,p4,b4,t4,q4⟩:=Ymz a4 p4 hHeld.size
      try have z7:=hid (q4 _ (block_lt e7))
      try have e7:=(hB.block _ (block_lt e7)).trans e7
      go_wp2_with fail
      refine kB hK hHeld hB fun hHeld=>?_
      clear hK K
      try simp only[sQ]
      refine' tkH 6 rfl (Yb1 (by rfl) _ _ rfl _ _ (hbl.out _ _ _ _) rfl) ?_
      simp only[sQ]
      exact M0 _ D4 d4 X4 x4 M4 T4 g7 hHeld m7 e7 a4 p4 b4 t4 z7
    intro wq D4 d4 X4 x4 M4 T4 g7 hHeld m7 e7 a4 p4 b4 t4 z7
    refine rdH 8 rfl fun K hK=>?_
    refine Zaj rfl 77 (.tmp 13) (.tmp 50) rfl g7 _ rfl rfl 77 zLkC e7 (YkW ⟨H,o9.root,ds,xs,rs⟩ ⟨D4,d4,X4,x4,Rp,rp⟩) (YlX ⟨H,o9.root,ds,xs,rs⟩ ⟨D4,d4,X4,x4,Rp,rp⟩) (Ymy ⟨H,o9.root,ds,xs,rs⟩ ⟨D4,d4,X4,x4,Rp,rp⟩) ?_
    intro v9 d7 hG
    have a4:=a4.far z7.out hG
    have p4:=p4.far z7.out hG
    refine hK.out _ _ (hHeld.grown hG hHeld.size (by intro k hk;injection hk with hk;omega)) fun hHeld=>?_
    clear hK K
    try simp only[sQ]
    refine dnN ?_
    have W9:=hid (W8.out.trans (hHeld.mono W8.out.size))
    have Z9:=hid ((hHeld.block _ (block_lt Z8.out)).trans Z8.out)
    have l9:=(BoxC.of (show _ from Zab hHeld Y8.out)).ls
    have I9:=hid (I8.out.bel hHeld)
    have t9':=hid (Zab hHeld h5.out)
    have N9:=hid (OwnR.base (a9.out.own.bel hHeld) b9)
    have s18:=hHeld.size
    have s17:=s81.out
    obtain⟨G,lkG,hG9⟩:=Ym2 (x:=⟨H,o9.root,ds,xs,rs⟩) ok1.out ok3.out (OwnR.base a4.own (show w1.heap.size≤M4 by omega)) (OwnR.base p4.own (show w1.heap.size≤M4 by omega)) (OwnR.base (r9.out.own.bel hHeld) b9)
    have R9:=hid (Yli lkG)
    have Q9:=hid hG9
    have f7:=hid (Zae d7)
    have is7:=hid (YkW ⟨H,o9.root,ds,xs,rs⟩ ⟨D4,d4,X4,x4,Rp,rp⟩)
    have ln7:=hid (show (lkC ⟨H,o9.root,ds,xs,rs⟩ ⟨D4,d4,X4,x4,Rp,rp⟩).length=Enc.size Lk from Yk8 ⟨H,o9.root,ds,xs,rs⟩ ⟨D4,d4,X4,x4,Rp,rp⟩)
    have szL:=hid (show Enc.size Lk≤16777216 by show 102≤16777216;decide)
    have bL:=hid (block_lt d7)
    have y3:=Z9.out
    have hLn:=hid (fun W h=>YkY (fun b=>b<w.heap.size) (some ⟨b,o,none⟩) m c.ls.length c.ls W h rfl (by omega) (fun x hx=>by have:=hb.xs x hx;omega))
    have hiO:=hid (show (Tryz.prog.info? 24).map (·.size)=some ([Value.slice Ap o9.ns.length cp,.int .i64 o9.root]).length from Zah)
    have hbc:=hid (fun A6 c6=>Ylu Ap A6 o9.ns.length cp (c.ls++[(⟨H,o9.root,ds,xs,rs⟩:Lk)]).length c6 o9.root)
    generalize hlk:(⟨H,o9.root,ds,xs,rs⟩:Lk)=lk at *
    replace hlk:=hid hlk
    generalize lkC lk ⟨D4,d4,X4,x4,Rp,rp⟩=lcs at *
    have s19:=hid (show w1.heap.size≤v9.heap.size by omega)
    have ltZ:=hid (block_lt Z9.out)
    clear a4 p4 lkG hG9 d7 I8 Y8 B8 D8 X8 W8 Z8 h5 h6 c5 a9 r9 hTb hbl d5'
    go_wp2
    refine wp_region_noPanic ?_
    refine wp_region_held_drew (S:=fun w'=>Chg (fun b=>b=w.heap.size+1+1+1) v9 w') (by kernel_rfl) ?_ (fun hHeld=>?_)
    ·exact Chg.of_bel (Zao v9)
    refine' tkM 0 rfl (fun _ h=>Zak t9'.out (fun hb=>h.block _ hb (by have:=lt1.out;omega))) hut hiO.out ?_
    refine' tkP 1 rfl ?_
    refine' tkF 2 (fun W hSw=>YkP hSw (by dsimp only;omega) l9) rfl ?_
    refine' tkM 4 rfl (fun _ h=>Zak f7.out (fun hb=>h.block _ hb (by have:=lt1.out;omega))) hul is7.out ?_
    simp only[sQ]
    apply shareK (T:=fun (K:World→(Option Addr)→(Nat)→(Nat)→Prop)=>∀(wq:World) (A3:Option Addr) (c3:Nat) (gB:Nat),Chg (fun b=>b=w.heap.size+1+1+1) v9 wq→wq.heap[w.heap.size+1+1+1]? =some (.cells zChC 27 (0,0))→OwnR 77 wq v9.heap.size A3 c3 c.ls→Src G wq (some ⟨gB,0,none⟩) [lk]→K wq A3 c3 gB)
    intro M0
    ·skip
     refine Ynx 3 5 rfl rfl (fun K hK=>?_) (fun K hK=>?_)
     ·skip
      go_simp
      refine(hLn.out _ (I9.out.ls.chg hHeld (fun b hb _=>by omega))).mono ?_
      rintro r v3 ⟨A3,c3,rfl,l3,hB⟩
      have l3:=OwnR.base l3 hHeld.size
      have y3:=(hB.block _ (block_lt y3)).trans y3
      try have s5:=s5.bel hB
      go_wp2_with fail
      refine hK.out _ _ (hHeld.trans (Chg.of_bel hB)) fun hHeld=>?_
      clear hK K
      try simp only[sQ]
      refine rdH 5 rfl fun K hK=>?_
      refine Yla Ylo szL.out (by rfl) (.tmp 55) rfl lcs rfl ln7.out ?_
      intro gB v5 b5 f5 hB
      have y3:=(hB.block _ (block_lt y3)).trans y3
      try have l3:=l3.bel hB
      have s5:Src G v5 (some ⟨gB,0,none⟩) [lk]:=YmF (Enc.kept R9.out (fun b hb hl=>(hB.block b (Vx4 hl hHeld.size)).trans (hHeld.block b hl (fun e=>by have e':b=w.heap.size+1+1+1:=e;have:=(Q9.out b hb).1;have:=lt1.out;omega)))) f5
      refine hK.out _ _ (hHeld.trans (Chg.of_bel hB)) fun hHeld=>?_
      clear hK K
      try simp only[sQ]
      exact M0 _ A3 c3 gB hHeld y3 l3 s5
     ·skip
      refine Yla Ylo szL.out (by rfl) (.tmp 55) rfl lcs rfl ln7.out ?_
      intro gB v5 b5 f5 hB
      have y3:=(hB.block _ (block_lt y3)).trans y3
      try have l3:=l3.bel hB
      have s5:Src G v5 (some ⟨gB,0,none⟩) [lk]:=YmF (Enc.kept R9.out (fun b hb hl=>(hB.block b (Vx4 hl hHeld.size)).trans (hHeld.block b hl (fun e=>by have e':b=w.heap.size+1+1+1:=e;have:=(Q9.out b hb).1;have:=lt1.out;omega)))) f5
      refine hK.out _ _ (hHeld.trans (Chg.of_bel hB)) fun hHeld=>?_
      clear hK K
      try simp only[sQ]
      refine rdH 3 rfl fun K hK=>?_
      go_simp
      refine(hLn.out _ (I9.out.ls.chg hHeld (fun b hb _=>by omega))).mono ?_
      rintro r v3 ⟨A3,c3,rfl,l3,hB⟩
      have l3:=OwnR.base l3 hHeld.size
      have y3:=(hB.block _ (block_lt y3)).trans y3
      try have s5:=s5.bel hB
      go_wp2_with fail
      refine hK.out _ _ (hHeld.trans (Chg.of_bel hB)) fun hHeld=>?_
      clear hK K
      try simp only[sQ]
      exact M0 _ A3 c3 gB hHeld y3 l3 s5
    intro wq A3 c3 gB hHeld y3 l3 s5
    refine rdH 6 rfl fun K hK=>?_
    refine Zss Ylo rfl (.tmp 54) (.tmp 56) rfl w1.heap.size v9.heap.size A3 _ c.ls.length 1 c3 1 c.ls [lk] G rfl rfl rfl rfl (OwnQ.base2 l3 s19.out (Vx8 _)) s5 (fun b hb=>⟨(Q9.out b hb).1,(Q9.out b hb).2.kept (hHeld.block b (Q9.out b hb).2.lt (fun e=>by have e':b=w.heap.size+1+1+1:=e;have:=(Q9.out b hb).1;have:=lt1.out;omega)),fun a ha e=>by have h1:=(l3.blk a ha).1;have h2:=(Q9.out b hb).2.lt;omega⟩) (by simp;omega) hHeld.size ?_
    intro A6 c6 v6 o6 hB6 hG6
    have y3:=(hB6.block _ ltZ.out).trans y3
    refine hK.out _ _ (Yna hHeld hB6) fun hHeld=>?_
    clear hK K
    try simp only[sQ]
    refine' tkH 7 rfl (Yb1 (by rfl) _ _ rfl _ _ (hbc.out A6 c6) rfl) ?_
    simp only[sQ]
    refine rdH 8 rfl fun K hK=>?_
    refine Zaj rfl 27 (.tmp 6) (.tmp 58) rfl (w.heap.size+1+1+1) _ rfl rfl 27 zChC y3 Yk5 rfl (Ym3 _ _ _ _ _ _ _) ?_
    intro v8' d8 hG8
    refine hK.out _ _ (hHeld.trans ((Chg.of_grown hG8).mono (fun b _ e=>by injection e))) fun hHeld=>?_
    clear hK K
    try simp only[sQ]
    refine' tkP 9 rfl ?_
    simp only[sQ]
    refine dnN ?_
    go_wp2
    refine Vy0 (YkK Tryz.results9 _ _ (w.heap.size+1+1+1) (chV (addC c o9 H ds xs rs) ⟨Ap,cp,A6,c6⟩) rfl (Zae (l:=chV (addC c o9 H ds xs rs) ⟨Ap,cp,A6,c6⟩) (by rw[← hlk.out]at d8;exact d8)) huc rfl (YkJ _ _)) rfl ⟨addC c o9 H ds xs rs,⟨Ap,cp,A6,c6⟩,by rfl,⟨?_,?_⟩,W9.out.trans (hHeld.below W9.out.size (fun b hb=>by omega)),e1.out⟩
    ·exact OwnR.base (OwnQ.keptG (g:=w.heap.size+1+1+1) N9.out (fun b hl hne=>hHeld.block b hl hne) lt1.out lt1.out) (by have:=lt1.out;omega)
    ·have o8:=OwnQ.keptG (g:=w.heap.size+1+1+1) o6 (fun b hl hne=>hG8.block b hl (fun e=>hne (by injection e))) lt1.out ltZ.out
     rw[← hlk.out]at o8
     exact OwnQ.base2 o8 (by have:=lt1.out;omega) (by have:=ltZ.out;omega)
theorem YmA:Places Tryz.prog 51 (.agg zHdC) [(0,1),(1,32),(33,32),(65,32),(97,1)]:=by unfold Places;kernel_rfl
theorem Yln(s r:Dg):Tryz.prog.built 51 [(2,.agg (s.1.map bv).toArray),(3,.agg (r.1.map bv).toArray)]=some (hdC ⟨0,z0,s,r,0⟩).toArray:=by
 have lz:∀d:Dg,(d.1.map bv).length=32:=ZbO
 have ha:∀d:Dg,(Value.agg (d.1.map bv).toArray).cells=(d.1.map bv).toArray:=fun _=>rfl
 have hL:(Value.agg zHdC).cells=(([Value.int .i64 0]++z0.1.map bv)++([z0.1.map bv,z0.1.map bv].flatten++[Value.int .i64 0])).toArray:=by
  show zHdC=_
  simp[zHdC,hdC,hdS,zH,z0]
 have h:=ZmW (place:=fun i=>([(0,1),(1,32),(33,32),(65,32),(97,1)]:List (Nat×Nat)).toArray[i]?) [.int .i64 0] [z0.1.map bv,z0.1.map bv] [.agg (s.1.map bv).toArray,.agg (r.1.map bv).toArray] 2 ([Value.int .i64 0]++z0.1.map bv) ⟨by simp[lz],by simp[lz,ha],by simp[lz],by simp[lz,ha],trivial⟩
 rw[Za5 YmA,hL]
 refine Eq.trans h ?_
 simp[hdC,hdS,ha,z0]
theorem YmB:Places Tryz.prog 77 (.agg zLkC) [(0,98),(98,1),(99,2),(101,1)]:=by unfold Places;kernel_rfl
theorem Ymd(x:Hd)(r:Int):Tryz.prog.built 77 [(0,.agg (hdC x).toArray),(1,.int .i64 r)]=some (lkC ⟨x,r,[],[],[]⟩ zLkS).toArray:=by
 have ha:(Value.agg (hdC x).toArray).cells=(hdC x).toArray:=rfl
 have hL:(Value.agg zLkC).cells=([]++([hdC zH,[Value.int .i64 0]].flatten++[Value.slice none 0 0,.slice none 0 0,.slice none 0 0])).toArray:=by
  show zLkC=_
  simp[zLkC,lkC,lkT,zLk,zLkS]
 have h:=ZmW (place:=fun i=>([(0,98),(98,1),(99,2),(101,1)]:List (Nat×Nat)).toArray[i]?) [Value.slice none 0 0,.slice none 0 0,.slice none 0 0] [hdC zH,[Value.int .i64 0]] [.agg (hdC x).toArray,.int .i64 r] 0 [] ⟨by simp[ZlC],by simp[ZlC,ha],by simp[ZlC],by simp[Value.cells],trivial⟩
 rw[Za5 YmB,hL]
 refine Eq.trans h ?_
 simp[lkC,lkT,zLkS,ha,Value.cells]
theorem Ylw(F:Nat→Prop)(A:Option Addr)(c:Nat)(ns:List Nd)(root:Int)(w:World)(hr:Row F w A ns)(hc:ns.length≤1000000)(hT:Tab w):
  Calls Tryz.prog 39 #[.agg #[.slice A ns.length c,.int .i64 root]] w fun e w'=>e=.returned (.agg (lkC (firstK ⟨ns,root⟩) zLkS).toArray)∧Below w.heap.size w w':=by
 have hut:=Tryz.underlying24
 have hu:=Tryz.underlying37
 have hul:=Tryz.underlying77
 have T0:=(BoxT.new w A ns.length c root 24).bel (Zad _ (.cells zLkC 77))
 have Z0:=Vx0 (w.alloc (.cells #[.slice A ns.length c,.int .i64 root] 24)) (.cells zLkC 77)
 have W0:Below w.heap.size w ((w.alloc (.cells #[.slice A ns.length c,.int .i64 root] 24)).alloc (.cells zLkC 77)):=Zag (Zad _ _) (Zad _ _)
 simp only[Vx2]at Z0
 have hiT:=hid (show (Tryz.prog.info? 24).map (·.size)=some ([Value.slice A ns.length c,.int .i64 root]).length from Zah)
 have R0:=hid ((hr.mono (G:=fun b=>b<w.heap.size) fun b _ h=>h).bel W0)
 have H0:=hid (hT.bel W0 hT.low)
 have hlow:=hid hT.low
 have hSu:=hid (fun W h1 h2=>ZdP (fun b=>b<w.heap.size) A c ns root W h1 hc h2)
 have hNo:Hid (∀ W,Tab W→Calls Tryz.prog 46 #[] W fun e w'=>e=.returned (.agg (noneK.1.map bv).toArray)∧Below W.heap.size W w'):=hid (fun W hT=>ZdS W hT)
 obtain⟨d,hd⟩:∃d,sumM ⟨ns,root⟩=d:=⟨_,rfl⟩
 obtain⟨nn,hnn⟩:∃d,noneK=d:=⟨_,rfl⟩
 unfold firstK
 rw[hd,hnn]
 obtain⟨ez,hez⟩:∃v:Int,(if mayT ⟨ns,root⟩=true then (0:Int) else 8)=v:=⟨_,rfl⟩
 rw[hd,hez]at hSu
 rw[hnn]at hNo
 have hbh:=hid (Yln d nn)
 have hbl:=hid (Ymd ⟨0,z0,d,nn,0⟩ root)
 have isl:=hid (YkW ⟨⟨0,z0,d,nn,0⟩,root,[],[],[]⟩ zLkS)
 have zsl:=hid (YlX ⟨⟨0,z0,d,nn,0⟩,root,[],[],[]⟩ zLkS)
 have osl:=hid (Ymy ⟨⟨0,z0,d,nn,0⟩,root,[],[],[]⟩ zLkS)
 have t0:=hid T0
 replace W0:=hid W0
 replace Z0:=hid Z0
 generalize (⟨⟨0,z0,d,nn,0⟩,root,[],[],[]⟩:Lk)=lk at *
 have hi32:=hid (Zaz d)
 have js:=hid (show (Tryz.prog.info? 37).map (·.size)=some (d.1.map bv).toArray.size from Zaz d)
 have zs:=hid (show z32.size=(d.1.map bv).toArray.size by rw[show z32.size=32 from rfl];simp[d.2])
 have os:=hid (show (d.1.map bv).toArray.all (·.oneCell')=true from all_oneCell_toArray fun v hv=>Zbn _ v hv)
 clear hr hT hd hnn T0 hez
 go_enter Tryz.func39,Tryz.ntmps39
 go_wp2_with (first
  |(with_reducible refine Zac rfl 77 rfl zLkC YlW ?_)
  |(with_reducible refine lDr t0.out.all hiT.out hut ?_))
 try simp only[Vx2]
 generalize (w.alloc (.cells #[.slice A ns.length c,.int .i64 root] 24)).alloc (.cells zLkC 77)=w0 at *
 refine(hSu.out _ R0.out H0.out).mono ?_
 rintro e w1 ⟨rfl,hB⟩
 have t1:=hid (t0.out.bel hB)
 have Z1:=hid ((hB.block _ (block_lt Z0.out)).trans Z0.out)
 have H1:=hid (H0.out.bel hB (Vx4 hlow.out W0.out.size))
 have W1:=hid (W0.out.trans (hB.mono W0.out.size))
 have E1:=hid (Vx0 w1 (.cells z32 37))
 clear hB hSu t0 Z0 R0 H0 W0
 go_wp2_with (first
  |(with_reducible refine Zac rfl 37 rfl z32 Zam ?_)
  |((with_reducible refine stW 3 8 _ 37 z32 ?_ ?_ ?_ ?_ ?_);exact E1.out;exact js.out;exact zs.out;exact os.out;intro w2 hgS hbS hsS;have X2:=hid (Zan rfl hbS);have q2:=hid (Zae hgS);clear hgS hbS hsS))
 have t2:=(t1.out.bel X2.out).rt
 have Z2:=hid ((X2.out.block _ (block_lt Z1.out)).trans Z1.out)
 have H2:=hid (H1.out.bel X2.out (Vx4 hlow.out W1.out.size))
 have W2:=hid (W1.out.trans (X2.out.mono W1.out.size))
 have lt1:=hid (block_lt Z1.out)
 clear t1 Z1 H1 W1 X2 E1
 refine wp_region_noPanic ?_
 refine wp_region_held_drew (S:=fun W=>Chg (fun b=>b=w.heap.size+1) w2 W) (by kernel_rfl) ?_ (fun hHeld=>?_)
 ·exact Chg.of_bel (Zao w2)
 refine' tkM 0 rfl (fun _ h=>Zak q2.out (fun hb=>h.block _ hb (by have:=lt1.out;omega))) hu hi32.out ?_
 refine' tkP 3 rfl ?_
 refine' tkF 4 (fun W hSw=>YkP hSw (by dsimp only;omega) t2) rfl ?_
 simp only[sQ]
 refine rdH 1 rfl fun K hK=>?_
 go_simp
 refine(hNo.out _ (H2.out.bel (hHeld.below (B:=w.heap.size) W2.out.size (fun b hb e=>by omega)) hlow.out)).mono ?_
 rintro e v1 ⟨rfl,hB⟩
 have z1:=hid ((hB.block _ (block_lt (show w2.drew.heap[w.heap.size+1]? =_ from Z2.out))).trans Z2.out)
 go_wp2_with fail
 refine hK.out _ _ (hHeld.trans (Chg.of_bel hB)) fun hHeld=>?_
 clear hK K
 try simp only[sQ]
 refine' tkH 2 rfl (Yb1 (by rfl) _ _ rfl _ _ (hbh.out) rfl) ?_
 simp only[sQ]
 refine' tkH 5 rfl (Yb1 (by rfl) _ _ rfl _ _ (hbl.out) rfl) ?_
 simp only[sQ]
 refine rdH 6 rfl fun K hK=>?_
 refine Zaj rfl 77 (.tmp 2) (.tmp 15) rfl (w.heap.size+1) _ rfl rfl 77 zLkC z1.out isl.out zsl.out osl.out ?_
 intro w3 d3 hG
 refine hK.out _ _ (hHeld.trans ((Chg.of_grown hG).mono (fun b _ e=>by injection e))) fun hHeld=>?_
 clear hK K
 try simp only[sQ]
 refine dnN ?_
 go_wp2
 exact Vy0 (results_cell_row Tryz.results39 _ _ (w.heap.size+1) 77 _ (0,0) _ rfl d3 hul rfl isl.out) rfl ⟨rfl,W2.out.trans (hHeld.below W2.out.size (fun b hb=>by omega))⟩
theorem YkZ(F:Nat→Prop)(A:Option Addr)(c n:Nat)(ps:List Pr)(w:World)(hr:Row F w A ps)(hn:n=ps.length)(hc:ps.length≤1000000)(hv:∀p∈ps,p.v.length≤1000000):
  Calls Tryz.prog 37 #[.slice A n c] w fun e w'=>e=.returned (.bool (heldP ps))∧Below w.heap.size w w':=by
 subst hn
 obtain⟨ans,ha⟩:∃a,heldP ps=a:=⟨_,rfl⟩
 rw[ha]
 replace ha:=hid ha
 have hup:=Tryz.underlying43
 have hua:=Tryz.underlying130
 go_enter Tryz.func37,Tryz.ntmps37
 go_wp2
 go_loopw [9] (fun i wr=>∃j:Nat,j≤ps.length∧i=.int .i64 j∧heldP (ps.take j)=true∧Below w.heap.size w wr) (fun i _=>ps.length-(intOf i).toNat)
 case atStart=>exact⟨0,Nat.zero_le _,rfl,rfl,Below.refl _ _⟩
 case round=>
  obtain⟨j,hj,rfl,hh,hb⟩:=hrel
  by_cases hlt:j<ps.length
  ·have hv1:=hv _ (List.getElem_mem hlt)
   obtain⟨b,o,hA,-,A',c',-,r2,h1,h2,h3⟩:=ZcO (hr.bel hb) hlt
   subst hA
   have hyes:=hid (fun e:acE ps[j].v=0=>(show heldP (ps.take (j+1))=true by
    rw[Zc5]at hh ⊢
    intro q hq
    rw[Vy5 hlt]at hq
    rcases List.mem_append.1 hq with hq|hq
    ·exact hh q hq
    ·rw[List.mem_singleton.1 hq]
     exact e))
   have hno:=hid (fun e:acE ps[j].v≠0=>(show heldP ps=false from Bool.eq_false_iff.2 fun h=>e (Zc5.1 h _ (List.getElem_mem hlt))))
   have hrd:=hid h3.rd
   have hs:=hid (Zjo ps[j].k (.slice A' ps[j].v.length c'))
   have hlen:Hid ((ps[j].k.1.map bv++[Value.slice A' ps[j].v.length c']).length=33):=Zbq _ _
   have hone:Hid ((ps[j].k.1.map bv++[Value.slice A' ps[j].v.length c']).toArray.all (·.oneCell')=true):=all_oneCell_toArray (Enc.one (ZcL (F:=F) (w:=wr) ps[j].k ps[j].v A' c' h1 h2 h3))
   have hRA:=hid (fun W (h:Rd W A' ps[j].v)=>Zd2 A' c' ps[j].v W h h1 h2 (by omega))
   generalize ps[j].k=k at *
   generalize ps[j].v=v at *
   generalize acE v=ev at *
   generalize acOf v=av at *
   have nb:=hid (ZbW av)
   replace hb:=hid hb
   replace hh:=hid hh
   have z9:=hid (Vx0 wr (.cells zPrC 43))
   have r9:=hid r2
   clear hr h3 r2 hv1
   go_wp2_with (first
    |(with_reducible refine lDr r9.out hs.out hup ?_)
    |(with_reducible refine Zac rfl 43 rfl zPrC ZnQ ?_)
    |((with_reducible refine wpList_store_row rfl 43 (.tmp 4) (.tmp 12) rfl wr.heap.size (k.1.map bv++[Value.slice A' v.length c']:List Value).toArray rfl ?_ 43 zPrC ?_ ?_ ?_ ?_ ?_);rfl;exact z9.out;exact hs.out;exact zSizePr.trans hlen.out.symm;exact hone.out;intro w4 hg4 hb4 hs4;have X4:=hid (Zan rfl hb4);have c4:=(ZeW hg4).1;clear hg4 hb4 hs4))
   refine(hRA.out w4 (hrd.out.bel X4.out)).mono ?_
   rintro e w5 ⟨rfl,hB5⟩
   have X5:=hid (hb.out.trans ((X4.out.trans (hB5.mono X4.out.size)).mono hb.out.size))
   have e5:=hid (Vx0 w5 (.cells (acC ac0).toArray 130))
   clear hB5 c4 X4 hrd
   by_cases hz:ev=0
   ·subst hz
    have y2:=hid (hyes.out rfl)
    clear hyes hno
    go_wp2_with (first
     |(with_reducible refine Zac rfl 130 rfl (acC ac0).toArray ZaZ ?_)
     |((with_reducible refine stW 5 17 w5.heap.size 130 (acC ac0).toArray ?_ ?_ ?_ ?_ ?_);exact e5.out;exact ZaM;rfl;exact nb.out;intro w6 hgS hbS hsS;have X6:=hid (Zan rfl hbS);clear hgS hbS hsS))
    go_roundw
    case rel=>exact⟨j+1,by omega,by go_num,y2.out,X5.out.trans (X6.out.mono X5.out.size)⟩
    case measure=>simp[intOf];omega
   ·have y1:=hid (hno.out hz)
    have hzb:(ev !=0)=true:=by rw[bne_iff_ne];exact hz
    clear hyes hno hz
    go_wp2_with (first
     |(with_reducible refine Zac rfl 130 rfl (acC ac0).toArray ZaZ ?_)
     |((with_reducible refine stW 5 17 w5.heap.size 130 (acC ac0).toArray ?_ ?_ ?_ ?_ ?_);exact e5.out;exact ZaM;rfl;exact nb.out;intro w6 hgS hbS hsS;have X6:=hid (Zan rfl hbS);clear hgS hbS hsS))
    go_ret
    exact⟨by rw[← ha.out,y1.out];rfl,X5.out.trans (X6.out.mono X5.out.size)⟩
  ·obtain rfl:j=ps.length:=by omega
   rw[List.take_length]at hh
   replace hh:=hid hh
   go_wp2
   go_ret
   exact⟨by rw[← ha.out,hh.out];rfl,hb⟩
theorem Ylj(w:World):Calls Tryz.prog 38 #[.slice none 0 0] w fun e w'=>e=.returned (.agg #[.slice none 0 0,.int .i64 0])∧Below w.heap.size w w':=by
 have hut:=Tryz.underlying24
 have z2:=Vx0 w (.cells zTrC 24)
 have W0:=hid (Zag (Zad w (.cells zTrC 24)) (Zad _ (.cells zTrC 24)))
 have z3:=hid (Vx0 (w.alloc (.cells zTrC 24)) (.cells zTrC 24))
 replace z2:=hid (((Zad _ (.cells zTrC 24)).block _ (block_lt z2)).trans z2)
 simp only[Vx2]at z3
 go_enter Tryz.func38,Tryz.ntmps38
 go_wp2_with ((with_reducible refine Zac rfl 24 rfl zTrC Zas ?_))
 try simp only[Vx2]
 generalize (w.alloc (.cells zTrC 24)).alloc (.cells zTrC 24)=w0 at *
 go_loopw [10] (fun i wr=>i=.int .i64 0∧wr=w0) (fun _ _=>0)
 case atStart=>exact⟨rfl,rfl⟩
 case round=>
  obtain⟨rfl,rfl⟩:=hrel
  go_wp2_with (first
   |(with_reducible refine lDr (Zae (l:=[.slice none 0 0,.int .i64 0]) z3.out) Zah hut ?_)
   |((with_reducible refine stW 2 26 w.heap.size 24 zTrC ?_ ?_ ?_ ?_ ?_);exact z2.out;exact Zah;rfl;exact Zat none 0 0 0;intro w2 hgS hbS hsS))
  exact Vy0 (results_cell_row Tryz.results38 _ _ w.heap.size 24 _ (0,0) _ rfl hgS hut rfl Zah) rfl ⟨rfl,W0.out.grown hbS W0.out.size (fun g e=>by injection e with e;omega)⟩
def bornC:Ch:=⟨⟨[],0⟩,[firstK ⟨[],0⟩]⟩
theorem Ynq(F:Nat→Prop)(A:Option Addr)(c n:Nat)(ps:List Pr)(w:World)(hr:Row F w A ps)(hn:n=ps.length)(hc:ps.length≤1000000)(hv:∀p∈ps,p.v.length≤1000000)(hno:(mayP ps&&heldP ps)=false):
  Calls Tryz.prog 8 #[.slice A n c] w fun e w'=>e=.returned (.tuple #[.agg (chV zCh zChS).toArray,.int .i64 8])∧Below w.heap.size w w':=by
 subst hn
 have huc:=Tryz.underlying27
 have Z0:=hid (Vx0 w (.cells zChC 27))
 have W0:=hid (Zad w (.cells zChC 27))
 have R0:=hid ((hr.mono (G:=fun b=>b<w.heap.size) fun b _ h=>h).bel W0.out)
 have hCk:=hid (fun W h=>ZcH (fun b=>b<w.heap.size) A c ps.length ps W h rfl (by omega))
 have hAc:=hid (fun W h=>YkZ (fun b=>b<w.heap.size) A c ps.length ps W h rfl hc hv)
 have zb:=hid Ylf
 have zo:=hid (YkR zCh zChS)
 have zs:=hid (YkJ zCh zChS)
 generalize mayP ps=p at *
 generalize heldP ps=q at *
 clear hr hc hv
 cases p with
 |false=>
  clear hAc
  simp only[Bool.false_eq_true,if_false]at hCk
  go_enter Tryz.func8,Tryz.ntmps8
  go_wp2_with ((with_reducible refine Zac rfl 27 rfl zChC YkN ?_))
  refine(hCk.out _ R0.out).mono ?_
  rintro e w1 ⟨rfl,hB⟩
  have Z1:=hid ((hB.block _ (block_lt Z0.out)).trans Z0.out)
  have W1:=hid (W0.out.trans (hB.mono W0.out.size))
  clear hB Z0 W0 R0 hCk
  go_wp2_with (first
   |((with_reducible refine Zaf rfl 27 _ rfl zChC [] ?_ ?_ ?_);exact zb.out;rfl)
   |((with_reducible refine stW 2 13 w.heap.size 27 zChC ?_ ?_ ?_ ?_ ?_);exact Z1.out;exact zs.out;rfl;exact zo.out;intro w2 hgS hbS hsS))
  exact Vy0 (YkK Tryz.results8 _ _ w.heap.size (chV zCh zChS) rfl (Zae hgS) huc rfl zs.out) rfl ⟨rfl,W1.out.grown hbS W1.out.size (fun g e=>by injection e with e;omega)⟩
 |true=>
  obtain rfl:q=false:=by simpa using hno
  simp only[if_true]at hCk
  go_enter Tryz.func8,Tryz.ntmps8
  go_wp2_with ((with_reducible refine Zac rfl 27 rfl zChC YkN ?_))
  refine(hCk.out _ R0.out).mono ?_
  rintro e w1 ⟨rfl,hB⟩
  have Z1:=hid ((hB.block _ (block_lt Z0.out)).trans Z0.out)
  have R1:=hid (R0.out.bel hB)
  have W1:=hid (W0.out.trans (hB.mono W0.out.size))
  clear hB Z0 W0 R0 hCk
  go_wp2_with fail
  refine(hAc.out _ R1.out).mono ?_
  rintro e w2 ⟨rfl,hB⟩
  have Z2:=hid ((hB.block _ (block_lt Z1.out)).trans Z1.out)
  have W2:=hid (W1.out.trans (hB.mono W1.out.size))
  clear hB Z1 W1 R1 hAc
  go_wp2_with (first
   |((with_reducible refine Zaf rfl 27 _ rfl zChC [] ?_ ?_ ?_);exact zb.out;rfl)
   |((with_reducible refine stW 2 13 w.heap.size 27 zChC ?_ ?_ ?_ ?_ ?_);exact Z2.out;exact zs.out;rfl;exact zo.out;intro w3 hgS hbS hsS))
  exact Vy0 (YkK Tryz.results8 _ _ w.heap.size (chV zCh zChS) rfl (Zae hgS) huc rfl zs.out) rfl ⟨rfl,W2.out.grown hbS W2.out.size (fun g e=>by injection e with e;omega)⟩
theorem Yms:(firstK ⟨[],0⟩).h.ok:=⟨by show (-9223372036854775808:Int)≤0∧(0:Int)≤9223372036854775807;decide,by show (-9223372036854775808:Int)≤0∧(0:Int)≤9223372036854775807;decide⟩
theorem Yl8(w:World)(hT:Tab w):
  Calls Tryz.prog 8 #[.slice none 0 0] w fun e w'=>∃s',e=.returned (.tuple #[.agg (chV bornC s').toArray,.int .i64 0])∧ChOwn w' w.heap.size bornC s'∧Below w.heap.size w w':=by
 have huc:=Tryz.underlying27
 have hut:=Tryz.underlying24
 have Z0:=hid (Vx0 w (.cells zChC 27))
 have W0:=hid (Zad w (.cells zChC 27))
 have T0:=hid (hT.bel W0.out hT.low)
 have hlow:=hid hT.low
 have hCk:Hid (∀ W:World,Calls Tryz.prog 36 #[.slice none 0 0] W fun e w'=>e=.returned (.int .i64 0)∧Below W.heap.size W w'):=hid (fun W=>ZcH (fun _=>False) none 0 0 [] W (Row.nil _ _ _) rfl (by decide))
 have hAc:Hid (∀ W:World,Calls Tryz.prog 37 #[.slice none 0 0] W fun e w'=>e=.returned (.bool true)∧Below W.heap.size W w'):=hid (fun W=>YkZ (fun _=>False) none 0 0 [] W (Row.nil _ _ _) rfl (by decide) (fun p h=>by cases h))
 have hPl:=hid (fun W=>Ylj W)
 have hFi:Hid (∀ W,Tab W→Calls Tryz.prog 39 #[.agg #[.slice none 0 0,.int .i64 0]] W fun e w'=>e=.returned (.agg (lkC (firstK ⟨[],0⟩) zLkS).toArray)∧Below W.heap.size W w'):=hid (fun W h=>Ylw (fun _=>False) none 0 [] 0 W (Row.nil _ _ _) (by decide) h)
 have kok:=hid Yms
 have hrt:(firstK ⟨[],0⟩).root=0∧(firstK ⟨[],0⟩).ds=[]∧(firstK ⟨[],0⟩).xs=[]∧(firstK ⟨[],0⟩).rs=[]:=⟨rfl,rfl,rfl,rfl⟩
 unfold bornC
 generalize firstK ⟨[],0⟩=lk at *
 have hbc:=hid (fun A6 c6=>Ylu none A6 0 0 1 c6 0)
 have ln7:=hid (show (lkC lk zLkS).length=Enc.size Lk from Yk8 lk zLkS)
 have szL:=hid (show Enc.size Lk≤16777216 by show 102≤16777216;decide)
 have hrep:=hid (fun W:World=>(show Enc.rep (fun _=>False) W lk (lkC lk zLkS) from Yli ⟨kok.out,by rw[hrt.1];exact⟨by decide,by decide⟩,by rw[hrt.2.1];exact Row.nil _ _ _,by rw[hrt.2.2.1];exact Row.nil _ _ _,by rw[hrt.2.2.2];exact Row.nil _ _ _,by rw[hrt.2.1];exact⟨by decide,by decide⟩,by rw[hrt.2.2.1];exact⟨by decide,by decide⟩,by rw[hrt.2.2.2];exact⟨by decide,by decide⟩⟩))
 clear hT hrt kok
 generalize hlcs:lkC lk zLkS=lcs at *
 replace hlcs:=hid hlcs
 go_enter Tryz.func8,Tryz.ntmps8
 go_wp2_with ((with_reducible refine Zac rfl 27 rfl zChC YkN ?_))
 refine(hCk.out _).mono ?_
 rintro e w1 ⟨rfl,hB⟩
 have Z1:=hid ((hB.block _ (block_lt Z0.out)).trans Z0.out)
 have T1:=hid (T0.out.bel hB (Vx4 hlow.out W0.out.size))
 have W1:=hid (W0.out.trans (hB.mono W0.out.size))
 clear hB Z0 W0 T0 hCk
 go_wp2_with fail
 refine(hAc.out _).mono ?_
 rintro e w2 ⟨rfl,hB⟩
 have Z2:=hid ((hB.block _ (block_lt Z1.out)).trans Z1.out)
 have T2:=hid (T1.out.bel hB (Vx4 hlow.out W1.out.size))
 have W2:=hid (W1.out.trans (hB.mono W1.out.size))
 clear hB Z1 W1 T1 hAc
 go_wp2_with fail
 refine(hPl.out _).mono ?_
 rintro e w3 ⟨rfl,hB⟩
 have Z3:=hid ((hB.block _ (block_lt Z2.out)).trans Z2.out)
 have T3:=hid (T2.out.bel hB (Vx4 hlow.out W2.out.size))
 have W3:=hid (W2.out.trans (hB.mono W2.out.size))
 have E3:=hid (Vx0 w3 (.cells zTrC 24))
 clear hB Z2 W2 T2 hPl
 go_wp2_with (first
  |(with_reducible refine Zac rfl 24 rfl zTrC Zas ?_)
  |((with_reducible refine stW 4 15 _ 24 zTrC ?_ ?_ ?_ ?_ ?_);exact E3.out;exact Zah;rfl;exact Zat none 0 0 0;intro w4 hgS hbS hsS;have X4:=hid (Zan rfl hbS);have q4:=hid (Zae (l:=[Value.slice none 0 0,.int .i64 0]) hgS);clear hgS hbS hsS))
 have Z4:=hid ((X4.out.block _ (block_lt Z3.out)).trans Z3.out)
 have T4:=hid (T3.out.bel X4.out (Vx4 hlow.out W3.out.size))
 have W4:=hid (W3.out.trans (X4.out.mono W3.out.size))
 have lt3:=hid (block_lt Z3.out)
 have lt4:=hid (block_lt Z4.out)
 clear Z3 T3 W3 X4 E3
 refine wp_region_noPanic ?_
 refine wp_region_held_drew (S:=fun W=>Chg (fun b=>b=w.heap.size) w4 W) (by kernel_rfl) ?_ (fun hHeld=>?_)
 ·exact Chg.of_bel (Zao w4)
 refine' tkM 0 rfl (fun _ h=>Zak q4.out (fun hb=>h.block _ hb (by have:=lt3.out;omega))) hut Zah ?_
 refine' tkM 1 rfl (fun _ h=>Zak q4.out (fun hb=>h.block _ hb (by have:=lt3.out;omega))) hut Zah ?_
 simp only[sQ]
 refine rdH 2 rfl fun K hK=>?_
 go_simp
 refine(hFi.out _ (T4.out.bel (hHeld.below (B:=w.heap.size) W4.out.size (fun b hb e=>by omega)) hlow.out)).mono ?_
 rintro e v5 ⟨rfl,hB⟩
 have z5:=hid ((hB.block _ (block_lt (show w4.drew.heap[w.heap.size]? =_ from Z4.out))).trans Z4.out)
 go_wp2_with fail
 refine hK.out _ _ (hHeld.trans (Chg.of_bel hB)) fun hHeld=>?_
 clear hK K
 try simp only[sQ]
 refine rdH 3 rfl fun K hK=>?_
 refine ZbE Ylo szL.out (by rfl) (.tmp 18) rfl lcs rfl ln7.out ?_
 have z6:=hid (((Zad v5 (.cells lcs.toArray 77)).block _ (block_lt z5.out)).trans z5.out)
 have o6:=hid (OwnR.one (E:=77) (B:=w4.heap.size) (hrep.out v5) (fun b hb=>hb.elim) hHeld.size)
 refine hK.out _ _ (hHeld.trans (Chg.of_bel (Zad _ _))) fun hHeld=>?_
 clear hK K
 try simp only[sQ]
 refine' tkH 4 rfl (Yb1 (by rfl) _ _ rfl _ _ (hbc.out _ _) rfl) ?_
 simp only[sQ]
 refine rdH 5 rfl fun K hK=>?_
 refine Zaj rfl 27 (.tmp 2) (.tmp 20) rfl w.heap.size _ rfl rfl 27 zChC z6.out Yk5 rfl (Ym3 _ _ _ _ _ _ _) ?_
 intro v7 d7 hG
 refine hK.out _ _ (hHeld.trans ((Chg.of_grown hG).mono (fun b _ e=>by injection e))) fun hHeld=>?_
 clear hK K
 try simp only[sQ]
 refine' tkP 6 rfl ?_
 simp only[sQ]
 refine dnN ?_
 go_wp2
 exact Vy0 (YkK Tryz.results8 _ _ w.heap.size [.slice none 0 0,.int .i64 0,.slice (some ⟨v5.heap.size,0,none⟩) 1 1] rfl (Zae (l:=[.slice none 0 0,.int .i64 0,.slice (some ⟨v5.heap.size,0,none⟩) 1 1]) d7) huc rfl Yk5) rfl
  ⟨⟨none,0,some ⟨v5.heap.size,0,none⟩,1⟩,rfl,⟨OwnR.nil _ _,OwnR.base (OwnQ.keptG (g:=w.heap.size) o6.out (fun b hl hne=>hG.block b hl (fun e=>hne (by injection e))) lt4.out lt4.out) (Nat.le_of_lt lt4.out)⟩,W4.out.trans (hHeld.below W4.out.size (fun b hb=>by omega))⟩
theorem Ym1{F:Nat→Prop}{c:Ch}{s:ChS}{w:World}(h:ChIn F w c s)(hb:ChB 50000 c)(hT:Tab w)(x:Hd)(hm:mayC c=true)(hx:topH c=x):
  Calls Tryz.prog 17 #[.agg (chV c s).toArray] w fun e w'=>e=.returned (.tuple #[.agg (hdC x).toArray,.int .i64 0])∧Below w.heap.size w w':=by
 have:=YlJ F c s w h ⟨by have:=hb.ns;omega,hb.ls,hb.xs⟩ hT
 unfold headC at this
 rw[hm,if_pos rfl,if_pos rfl,hx]at this
 exact this
def AddQ(z:Int)(P:Ch→Prop)(w:World)(r:Ending)(w':World):Prop:=∃cc s',r=.returned (.tuple #[.agg (chV cc s').toArray,.int .i64 z])∧ChOwn w' w.heap.size cc s'∧Below w.heap.size w w'∧P cc
theorem YmK{F Fd Fx:Nat→Prop}{c:Ch}{s:ChS}{D:Option Addr}{d:Nat}{ds:List Dp}{X:Option Addr}{e:Nat}{xs:List Tx}{box:Dg}{w:World}(hi:ChIn F w c s)(hb:ChB 50000 c)(hD:Row Fd w D ds)(hX:Row Fx w X xs)(ld:ds.length≤1000)(lx:xs.length≤1000)(hT:Tab w)
  (z:Int) (P:Ch→Prop) (h1:addE c ds xs box=z) (h2:∀cc,AddOk c ds xs box cc→P cc):
  Calls Tryz.prog 9 #[.agg (chV c s).toArray,.agg #[.slice D ds.length d,.slice X xs.length e],.agg (box.1.map bv).toArray] w (AddQ z P w):=by
 subst h1
 exact(Yl6 F Fd Fx c s D d ds X e xs box w hi hb hD hX ld lx hT).mono fun r w' ⟨cc,s',k1,k2,k3,k4⟩=>⟨cc,s',k1,k2,k3,h2 cc k4⟩
def CutQ(z:Int)(cc:Ch)(w:World)(r:Ending)(w':World):Prop:=∃s',r=.returned (.tuple #[.agg (chV cc s').toArray,.int .i64 z])∧ChOwn w' w.heap.size cc s'∧Below w.heap.size w w'
theorem Yns{F:Nat→Prop}{c:Ch}{s:ChS}{h:Int}{w:World}(hi:ChIn F w c s)(hb:ChB 50000 c)(hT:Tab w)(z:Int)(cc:Ch)(h1:cutE c h=z)(h2:cutR c h=cc):
  Calls Tryz.prog 10 #[.agg (chV c s).toArray,.int .i64 h] w (CutQ z cc w):=by
 subst h1 h2
 exact Yl7 F c s h w hi ⟨by have:=hb.ns;omega,hb.ls,hb.xs⟩ hT
theorem YlQ{c:Ch}(hm:mayC c=true){k:Nat}(hk:k<c.ls.length):cutE c (k:Int)=0∧cutR c (k:Int)=cutC c k:=by
 have h:(0:Int)≤(k:Int)∧(k:Int)<(c.ls.length:Int):=by omega
 unfold cutE cutR
 rw[if_pos hm,if_pos h,if_pos ⟨hm,h⟩]
 exact⟨rfl,rfl⟩
theorem Yle{c cc:Ch}{ds:List Dp}{xs:List Tx}{box:Dg}(h:addE c ds xs box=0)(hc:AddOk c ds xs box cc):
  mayC c=true∧c.ls.length<256∧applyE c.t (topH c) ds xs box=0∧∃o,ApplyOk c.t (topH c) ds xs box o∧cc=addC c o (applyH c.t (topH c) ds xs box) ds xs (applyR c.t (topH c) ds xs box):=by
 unfold AddOk at hc
 rw[if_pos h]at hc
 unfold addE at h
 split at h
 ·rename_i hm
  split at h
  ·cases h
  ·rename_i hl
   exact⟨hm,by have:=(Ylb hm).2;omega,h,hc⟩
 ·cases h
theorem YlM{c cc:Ch}{ds:List Dp}{xs:List Tx}{box:Dg}{N:Nat}(hb:ChB N c)(hl:c.ls.length≤20)(hd:ds.length≤20)(hx:xs.length≤20)(hc:AddOk c ds xs box cc):ChB (N+48000) cc∧cc.ls.length≤c.ls.length+1:=by
 by_cases h:addE c ds xs box=0
 ·obtain⟨hm,_,ha,o,ho,rfl⟩:=Yle h hc
  obtain⟨_,_,o3,_⟩:=Zc4 ha ho
  have h1:=hb.ns
  have h2:=ZgK ha
  refine⟨⟨?_,?_,fun x hx=>?_⟩,?_⟩
  ·show o.ns.length≤_
   omega
  ·show (c.ls++[_]).length≤_
   simp
   omega
  ·rcases List.mem_append.1 hx with hx|hx
   ·exact hb.xs x hx
   ·rw[List.mem_singleton.1 hx]
    dsimp only
    omega
  ·show (c.ls++[_]).length≤_
   simp
 ·unfold AddOk at hc
  rw[if_neg h]at hc
  subst hc
  exact⟨⟨Nat.zero_le _,Nat.zero_le _,fun x hx=>by cases hx⟩,Nat.zero_le _⟩
def bornH:Hd:=⟨0,z0,noneK,noneK,0⟩
theorem Ym0:(firstK ⟨[],0⟩).h=bornH:=by
 unfold firstK bornH
 have h:sumM ⟨[],0⟩=noneK:=by
  unfold sumM
  have hm:=Zev
  unfold mayA at hm
  simp only[Bool.and_eq_true]at hm
  rw[if_pos hm.1]
  refine Subtype.ext ?_
  show sumP [] 256 0=sha256 [0]
  rw[ZgW,Zqf]
 rw[h]
theorem Ylt:topH bornC=bornH:=Ym0
theorem Yl0:mayC bornC=true:=by
 have hm:=Zev
 have hm':=hm
 unfold mayA at hm'
 simp only[Bool.and_eq_true]at hm'
 refine YkM.2 ⟨firstK ⟨[],0⟩,rfl,by decide,hm'.1,rfl,YkL.2 fun i hi=>?_⟩
 obtain rfl:i=0:=by simpa [bornC] using hi
 have hv:verT ([]:List Nd) (firstK ⟨[],0⟩).root=⟨[],0⟩:=rfl
 show fitsB [] none (firstK ⟨[],0⟩)=true
 unfold fitsB placedB stateB partsB
 rw[hv,hm]
 rfl
theorem born_b:ChB 50000 bornC:=⟨by decide,by decide,fun x hx=>by
 rw[List.mem_singleton.1 hx]
 exact⟨by decide,by decide,by decide⟩⟩
theorem YlZ:addE bornC [] [] zBox=0:=by
 unfold addE
 rw[if_pos Yl0,if_neg (by decide),Ylt]
 show applyE ⟨[],0⟩ bornH [] [] zBox=0
 unfold applyE
 rw[if_pos Zev,if_pos (by decide),if_neg (by decide),if_neg (by decide),if_neg (by decide)]
 rfl
theorem YmM{d:Ch}(h:AddOk bornC [] [] zBox d):(mayC d=true∧(topH d).h=1)∧ChB 50000 d∧(cutE d 0=0∧cutR d 0=cutC d 0)∧mayC (cutC d 0)=true∧topH (cutC d 0)=bornH∧ChB 50000 (cutC d 0):=by
 have hb:=(YlM (N:=0) ⟨Vx8 _,born_b.ls,born_b.xs⟩ (by decide) (by simp) (by simp) h).1
 obtain⟨hm,hl,ha,o,ho,rfl⟩:=Yle YlZ h
 have hd:=YlN hm hl ha ho
 have h2:0<(addC bornC o (applyH bornC.t (topH bornC) [] [] zBox) [] [] (applyR bornC.t (topH bornC) [] [] zBox)).ls.length:=by show 0<2;decide
 have hb':ChB 50000 (addC bornC o (applyH bornC.t (topH bornC) [] [] zBox) [] [] (applyR bornC.t (topH bornC) [] [] zBox)):=⟨by have:=hb.ns;omega,hb.ls,hb.xs⟩
 refine⟨⟨hd,?_⟩,hb',YlQ hd h2,YlP hd h2,?_,hb'.cut h2⟩
 ·show (applyH bornC.t (topH bornC) [] [] zBox).h=1
  unfold applyH
  rw[if_pos ha,Ylt]
  rfl
 ·rw[YkV h2]
  exact Ym0
end Go.Proofs.YtnnclggeifnomaaGreatDoor
