import Derived.Test.YtiglglcfcfjigaaGreatDoorCaC
set_option maxRecDepth 100000
set_option linter.all false
set_option maxHeartbeats 4000000
namespace Go.Proofs.YtiglglcfcfjigaaGreatDoor
open Go.RowKit
def atE(t:Tr)(r:Int):Int:=if mayT t=true then (if mayT ⟨t.ns,r⟩=true then 0 else 2) else 8
def atT(t:Tr)(r:Int):Tr:=if atE t r=0 then ⟨t.ns,r⟩ else ⟨[],0⟩
theorem YfR{t:Tr}{r:Int}(h:¬atE t r=0):atT t r=⟨[],0⟩:=by unfold atT;rw[if_neg h]
theorem Zyp(w:World)(A:Option Addr)(n c:Nat)(root:Int):
  ((w.alloc (.cells #[.slice A n c,.int .i64 root] 24)).alloc (.cells zTrC 24)).heap[w.heap.size]? =some (.cells #[.slice A n c,.int .i64 root] 24)∧
  ((w.alloc (.cells #[.slice A n c,.int .i64 root] 24)).alloc (.cells zTrC 24)).heap[w.heap.size+1]? =some (.cells zTrC 24)∧
  Below w.heap.size w ((w.alloc (.cells #[.slice A n c,.int .i64 root] 24)).alloc (.cells zTrC 24)):=by
 have h1:=Vx0 w (.cells #[.slice A n c,.int .i64 root] 24)
 have h2:=Vx0 (w.alloc (.cells #[.slice A n c,.int .i64 root] 24)) (.cells zTrC 24)
 rw[Vx2]at h2
 exact⟨((Zad _ _).block _ (block_lt h1)).trans h1,h2,Zag (Zad _ _) (Zad _ _)⟩
theorem Zjy(F:Nat→Prop)(A:Option Addr)(c:Nat)(ns:List Nd)(root r:Int)(w:World)(hr:Row F w A ns)(hc:ns.length≤1000000):
  Calls Tryz.prog 45 #[.agg #[.slice A ns.length c,.int .i64 root],.int .i64 r] w fun e w'=>∃A' c',e=.returned (.tuple #[.agg #[.slice A' (atT ⟨ns,root⟩ r).ns.length c',.int .i64 (atT ⟨ns,root⟩ r).root],.int .i64 (atE ⟨ns,root⟩ r)])∧OwnR 106 w' w.heap.size A' c' (atT ⟨ns,root⟩ r).ns∧Below w.heap.size w w':=by
 obtain⟨hb0,hz0,W0⟩:=Zyp w A ns.length c root
 have hr0:=hr.bel W0
 have hut:=Tryz.underlying24
 have hiT:=hid (show (Tryz.prog.info? 24).map (·.size)=some ([Value.slice A ns.length c,.int .i64 root]).length from Zah)
 have hiR:=hid (show (Tryz.prog.info? 24).map (·.size)=some ([Value.slice A ns.length c,.int .i64 r]).length from Zah)
 have hb0t:=hid ZbU
 obtain⟨m,hm⟩:∃m,mayT ⟨ns,root⟩=m:=⟨_,rfl⟩
 have hC:=hid (fun W hW=>ZdG F A c ns root m W hW (by omega) hm)
 obtain⟨m2,hm2⟩:∃m2,mayT ⟨ns,r⟩=m2:=⟨_,rfl⟩
 have hC2:=hid (fun W hW=>ZdG F A c ns r m2 W hW (by omega) hm2)
 replace hz0:=hid hz0
 cases m with
 |false=>
  have hE:atE ⟨ns,root⟩ r=8:=by unfold atE;rw[hm];rfl
  rw[YfR (by rw[hE];decide),hE]
  clear hm hm2
  go_enter Tryz.func45,Tryz.ntmps45
  go_wp2_with (first
   |(with_reducible refine Zac rfl 24 rfl zTrC Zas ?_)
   |(with_reducible refine lDr (Zae (l:=[Value.slice A ns.length c,.int .i64 root]) hb0) hiT.out hut ?_))
  generalize (w.alloc (.cells #[.slice A ns.length c,.int .i64 root] 24)).alloc (.cells zTrC 24)=w0 at *
  refine(hC.out _ hr0).mono ?_
  rintro e w1 ⟨rfl,hb⟩
  have z1:=hid ((hb.block _ (block_lt hz0.out)).trans hz0.out)
  have W1:=hid (W0.trans (hb.mono W0.size))
  go_wp2_with (first
   |((with_reducible refine Zaf rfl 24 _ rfl zTrC [] ?_ ?_ ?_);exact hb0t.out;rfl)
   |((with_reducible refine stW 4 11 (w.heap.size+1) 24 zTrC ?_ ?_ ?_ ?_ ?_);exact z1.out;exact Zah;rfl;exact ZeP;intro w9 hg9 hb9 hs9))
  exact Vy0 (Zce Tryz.results45 _ _ (w.heap.size+1) none 0 0 0 rfl hg9) rfl ⟨none,0,rfl,OwnR.nil _ _,W1.out.grown hb9 W1.out.size (fun g e=>by injection e with e;omega)⟩
 |true=>
  have hTw:=hid (fun W hW=>ZeC F A c ns r W hW hc (fun x hx=>Vx1 (ZjZ hm x hx) (by decide)))
  have hE:atE ⟨ns,root⟩ r=if m2=true then 0 else 2:=by unfold atE;rw[hm,hm2];rfl
  cases m2 with
  |false=>
   rw[if_neg (by decide)]at hE
   rw[YfR (by rw[hE];decide),hE]
   clear hm hm2 hTw
   go_enter Tryz.func45,Tryz.ntmps45
   go_wp2_with (first
    |(with_reducible refine Zac rfl 24 rfl zTrC Zas ?_)
    |(with_reducible refine lDr (Zae (l:=[Value.slice A ns.length c,.int .i64 root]) hb0) hiT.out hut ?_))
   generalize (w.alloc (.cells #[.slice A ns.length c,.int .i64 root] 24)).alloc (.cells zTrC 24)=w0 at *
   refine(hC.out _ hr0).mono ?_
   rintro e w1 ⟨rfl,hb⟩
   have h1:=(hb.block _ (block_lt hb0)).trans hb0
   have y1:=Zaq h1 1
   have f1:=Zap h1 1
   simp only[List.getElem?_toArray,List.getElem?_cons_zero,List.getElem?_cons_succ]at y1
   have g2:=ZaD h1 1 (.int .i64 r)
   rw[show (#[Value.slice A ns.length c,.int .i64 root]:Array Value).setIfInBounds 1 (.int .i64 r)=#[.slice A ns.length c,.int .i64 r] from rfl]at g2
   have s2:=hid (Zae (l:=[Value.slice A ns.length c,.int .i64 r]) g2)
   have z2:=hid ((Vy3 w1 ⟨w.heap.size,1,none⟩ (.int .i64 r) (w.heap.size+1) (by simp)).trans ((hb.block _ (block_lt hz0.out)).trans hz0.out))
   have W2:=hid ((W0.trans (hb.mono W0.size)).setCell (p:=⟨w.heap.size,1,none⟩) (Vx8 _) (.int .i64 r))
   have r2:=hid (hr.bel W2.out)
   clear hb hb0 hz0 W0 hr0 h1 g2
   go_wp2_with ((with_reducible refine lDr s2.out hiR.out hut ?_))
   refine(hC2.out _ r2.out).mono ?_
   rintro e w3 ⟨rfl,hb⟩
   have z3:=hid ((hb.block _ (block_lt z2.out)).trans z2.out)
   have W3:=hid (W2.out.trans (hb.mono W2.out.size))
   go_wp2_with (first
    |((with_reducible refine Zaf rfl 24 _ rfl zTrC [] ?_ ?_ ?_);exact hb0t.out;rfl)
    |((with_reducible refine stW 4 18 (w.heap.size+1) 24 zTrC ?_ ?_ ?_ ?_ ?_);exact z3.out;exact Zah;rfl;exact ZeP;intro w9 hg9 hb9 hs9))
   exact Vy0 (Zce Tryz.results45 _ _ (w.heap.size+1) none 0 0 0 rfl hg9) rfl ⟨none,0,rfl,OwnR.nil _ _,W3.out.grown hb9 W3.out.size (fun g e=>by injection e with e;omega)⟩
  |true=>
   rw[if_pos rfl]at hE
   have hT:atT ⟨ns,root⟩ r=⟨ns,r⟩:=by unfold atT;rw[if_pos hE]
   rw[hT,hE]
   dsimp only
   clear hm hm2 hE hT
   go_enter Tryz.func45,Tryz.ntmps45
   go_wp2_with (first
    |(with_reducible refine Zac rfl 24 rfl zTrC Zas ?_)
    |(with_reducible refine lDr (Zae (l:=[Value.slice A ns.length c,.int .i64 root]) hb0) hiT.out hut ?_))
   generalize (w.alloc (.cells #[.slice A ns.length c,.int .i64 root] 24)).alloc (.cells zTrC 24)=w0 at *
   refine(hC.out _ hr0).mono ?_
   rintro e w1 ⟨rfl,hb⟩
   have h1:=(hb.block _ (block_lt hb0)).trans hb0
   have y1:=Zaq h1 1
   have f1:=Zap h1 1
   simp only[List.getElem?_toArray,List.getElem?_cons_zero,List.getElem?_cons_succ]at y1
   have g2:=ZaD h1 1 (.int .i64 r)
   rw[show (#[Value.slice A ns.length c,.int .i64 root]:Array Value).setIfInBounds 1 (.int .i64 r)=#[.slice A ns.length c,.int .i64 r] from rfl]at g2
   have s2:=hid (Zae (l:=[Value.slice A ns.length c,.int .i64 r]) g2)
   have z2:=hid ((Vy3 w1 ⟨w.heap.size,1,none⟩ (.int .i64 r) (w.heap.size+1) (by simp)).trans ((hb.block _ (block_lt hz0.out)).trans hz0.out))
   have W2:=hid ((W0.trans (hb.mono W0.size)).setCell (p:=⟨w.heap.size,1,none⟩) (Vx8 _) (.int .i64 r))
   have r2:=hid (hr.bel W2.out)
   clear hb hb0 hz0 W0 hr0 h1 g2
   go_wp2_with ((with_reducible refine lDr s2.out hiR.out hut ?_))
   refine(hC2.out _ r2.out).mono ?_
   rintro e w3 ⟨rfl,hb⟩
   have z3:=hid ((hb.block _ (block_lt z2.out)).trans z2.out)
   have s3:=hid (Zab hb s2.out)
   have r3:=hid (r2.out.bel hb)
   have W3:=hid (W2.out.trans (hb.mono W2.out.size))
   clear hb z2 s2 r2 W2
   go_wp2_with ((with_reducible refine lDr s3.out hiR.out hut ?_))
   refine(hTw.out _ r3.out).mono ?_
   rintro e w5 ⟨A5,c5,rfl,ho5,hb⟩
   have z5:=hid ((hb.block _ (block_lt z3.out)).trans z3.out)
   have W5:=hid (W3.out.trans (hb.mono W3.out.size))
   have s5:=hid (block_lt z3.out)
   clear hb
   go_wp2_with (((with_reducible refine stW 4 20 (w.heap.size+1) 24 zTrC ?_ ?_ ?_ ?_ ?_);exact z5.out;exact Zah;rfl;exact Zat A5 ns.length c5 r;intro w9 hg9 hb9 hs9))
   exact Vy0 (Zce Tryz.results45 _ _ (w.heap.size+1) A5 ns.length c5 r rfl hg9) rfl ⟨A5,c5,rfl,OwnR.base (OwnQ.keptAtP ho5 hb9 (by have:=s5.out;omega) (by have:=s5.out;omega)) (by have:=s5.out;omega),W5.out.grown hb9 W5.out.size (fun g e=>by injection e with e;omega)⟩
def stateE(c:Ch)(h:Int):Int:=cutE c h
def stateR(c:Ch)(h:Int):Tr:=if mayC c=true∧0≤h∧h<(c.ls.length:Int) then ⟨c.t.ns,((c.ls[h.toNat]?).map Lk.root).getD 0⟩ else ⟨[],0⟩
theorem Yk7{c:Ch}(h:mayC c=true){k:Nat}(hk:k<c.ls.length):mayA ⟨c.t.ns,c.ls[k].root⟩=true∧allT (verT c.t.ns c.ls[k].root)=allT ⟨c.t.ns,c.ls[k].root⟩:=by
 obtain⟨l,k1,k2,k3,k4,k5⟩:=YkM.1 h
 obtain⟨_,⟨q0,q1,q2⟩,_⟩:=Yk4 h hk
 obtain⟨e1,e2⟩:=Ylv (root:=c.t.root) k3 q0 q1
 refine⟨?_,e2⟩
 unfold mayA at q2 ⊢
 rw[← e1,←e2]
 exact q2
theorem Ym9(w:World)(l:List Value)(t u:TypeId):
  let W:=(w.alloc (.cells l.toArray t)).alloc (.cells zTrC u)
  W.rangeAt w.heap.size 0 l∧W.heap[w.heap.size+1]? =some (.cells zTrC u (0,0))∧Below w.heap.size w W:=by
 intro W
 have h1:=Zae (Vx0 w (.cells l.toArray t))
 have h2:=Vx0 (w.alloc (.cells l.toArray t)) (.cells zTrC u)
 simp only[Vx2]at h2
 exact⟨Zab (Zad _ _) h1,h2,Zag (Zad _ _) (Zad _ _)⟩
theorem Ylk(F:Nat→Prop)(c:Ch)(s:ChS)(h:Int)(w:World)(hi:ChIn F w c s)(hb:ChB 1000000 c)(hT:Tab w):
  Calls Tryz.prog 11 #[.agg (chV c s).toArray,.int .i64 h] w fun e w'=>∃A' c',e=.returned (.tuple #[.agg #[.slice A' (stateR c h).ns.length c',.int .i64 (stateR c h).root],.int .i64 (stateE c h)])∧OwnR 106 w' w.heap.size A' c' (stateR c h).ns∧Below w.heap.size w w':=by
 have huc:=Tryz.underlying27
 have hut:=Tryz.underlying24
 obtain⟨Y0,Z0,W0⟩:=Ym9 w (chV c s) 27 24
 have hiC:=hid (YkJ c s)
 have I0:=hid ((hi.mono (G:=fun b=>b<w.heap.size) fun b _ h=>h).bel W0)
 have T0:=hid (hT.bel W0 hT.low)
 have hCk:=hid (fun W h1 h2=>YkQ (fun b=>b<w.heap.size) c s W h1 hb h2)
 have hHh:=hid (fun W=>YkX s.A c.t.ns.length s.k c.t.root s.L c.ls.length s.m h W)
 obtain⟨q,hq⟩:∃v,mayC c=v:=⟨_,rfl⟩
 obtain⟨p,hp⟩:∃v,(decide (0≤h)&&decide (h<(c.ls.length:Int)))=v:=⟨_,rfl⟩
 obtain⟨cc,hcc⟩:∃v,stateR c h=v:=⟨_,rfl⟩
 obtain⟨z,hz⟩:∃v,stateE c h=v:=⟨_,rfl⟩
 rw[hcc,hz]
 unfold stateR at hcc
 unfold stateE cutE at hz
 have hN:Hid (q=false→(⟨[],0⟩:Tr)=cc∧(8:Int)=z):=hid fun e=>by
  rw[← hcc,←hz,hq,e]
  exact⟨rfl,rfl⟩
 have hA:Hid (q=true→p=false→(⟨[],0⟩:Tr)=cc∧(2:Int)=z):=hid fun e e2=>by
  have:¬(0≤h∧h<(c.ls.length:Int)):=fun ⟨h1,h2⟩=>by rw[← hp,Vy2 h1,Vy2 h2]at e2;cases e2
  rw[← hcc,←hz,hq,e,if_neg (fun h=>this h.2),if_pos rfl,if_neg this]
  exact⟨rfl,rfl⟩
 have hO:Hid (q=true→p=true→∃(k:Nat) (hk:k<c.ls.length),h=(k:Int)∧(⟨c.t.ns,c.ls[k].root⟩:Tr)=cc∧(0:Int)=z∧mayA ⟨c.t.ns,c.ls[k].root⟩=true∧mayT c.t=true):=hid fun e e2=>by
  rw[← hp,Bool.and_eq_true,decide_eq_true_eq,decide_eq_true_eq]at e2
  refine⟨h.toNat,by omega,by omega,?_,?_,(Yk7 (hq.trans e) (by omega)).1,(YkM.1 (hq.trans e)).choose_spec.2.2.1⟩
  ·rw[← hcc,hq,e,if_pos ⟨rfl,e2⟩,Vx9 (show h.toNat<c.ls.length by omega)]
   rfl
  ·rw[← hz,hq,e,if_pos rfl,if_pos e2]
 rw[hq]at hCk
 rw[hp]at hHh
 replace W0:=hid W0
 replace Z0:=hid Z0
 have zb:=hid ZbU
 have y0:=hid Y0
 clear hT hq hp hcc hz hi Y0
 go_enter Tryz.func11,Tryz.ntmps11
 go_wp2_with (first
  |(with_reducible refine Zac rfl 24 rfl zTrC Zas ?_)
  |(with_reducible refine lDr y0.out hiC.out huc ?_))
 try simp only[Vx2]
 generalize (w.alloc (.cells (chV c s).toArray 27)).alloc (.cells zTrC 24)=w0 at *
 refine(hCk.out _ I0.out T0.out).mono ?_
 rintro e w1 ⟨rfl,hB⟩
 have I1:=hid (I0.out.bel hB)
 have Z1:=hid ((hB.block _ (block_lt Z0.out)).trans Z0.out)
 have y1:=hid (Zab hB y0.out)
 have W1:=hid (W0.out.trans (hB.mono W0.out.size))
 clear hB hCk Z0 I0 W0 T0 y0
 cases q with
 |false=>
  obtain⟨e1,e2⟩:=hN.out (by first|trivial|rfl)
  replace e1:=hid e1
  replace e2:=hid e2
  go_wp2_with (first
   |((with_reducible refine Zaf rfl 24 _ rfl zTrC [] ?_ ?_ ?_);exact zb.out;rfl)
   |((with_reducible refine stW 4 11 (w.heap.size+1) 24 zTrC ?_ ?_ ?_ ?_ ?_);exact Z1.out;exact Zah;rfl;exact Zat none 0 0 0;intro w2 hgS hbS hsS))
  exact Vy0 (YkK Tryz.results11 _ _ (w.heap.size+1) [.slice none 0 0,.int .i64 0] rfl (Zae (l:=[.slice none 0 0,.int .i64 0]) hgS) hut rfl Zah) rfl ⟨none,0,by rw[← e1.out,←e2.out];rfl,e1.out▸OwnR.nil _ _,W1.out.grown hbS W1.out.size (fun g e=>by injection e with e;omega)⟩
 |true=>
  go_wp2_with ((with_reducible refine lDr y1.out hiC.out huc ?_))
  refine(hHh.out _).mono ?_
  rintro e w2 ⟨rfl,hB⟩
  have I2:=hid (I1.out.bel hB)
  have Z2:=hid ((hB.block _ (block_lt Z1.out)).trans Z1.out)
  have y2:=hid (Zab hB y1.out)
  have W2:=hid (W1.out.trans (hB.mono W1.out.size))
  clear hB hHh Z1 I1 W1 y1 hN
  cases p with
  |false=>
   obtain⟨e1,e2⟩:=hA.out (by first|trivial|rfl) (by first|trivial|rfl)
   replace e1:=hid e1
   replace e2:=hid e2
   go_wp2_with (first
    |((with_reducible refine Zaf rfl 24 _ rfl zTrC [] ?_ ?_ ?_);exact zb.out;rfl)
    |((with_reducible refine stW 4 17 (w.heap.size+1) 24 zTrC ?_ ?_ ?_ ?_ ?_);exact Z2.out;exact Zah;rfl;exact Zat none 0 0 0;intro w3 hgS hbS hsS))
   exact Vy0 (YkK Tryz.results11 _ _ (w.heap.size+1) [.slice none 0 0,.int .i64 0] rfl (Zae (l:=[.slice none 0 0,.int .i64 0]) hgS) hut rfl Zah) rfl ⟨none,0,by rw[← e1.out,←e2.out];rfl,e1.out▸OwnR.nil _ _,W2.out.grown hbS W2.out.size (fun g e=>by injection e with e;omega)⟩
  |true=>
   obtain⟨k,hk,rfl,e1,e2,hm,hmt⟩:=hO.out (by first|trivial|rfl) (by first|trivial|rfl)
   replace e1:=hid e1
   replace e2:=hid e2
   have hk2:(k:Int)<(c.ls.length:Int):=by omega
   obtain⟨b,o,hL,s9,lk9,ok9⟩:=YkS I2.out.ls hk
   have hbw:b<w.heap.size:=by
    obtain⟨b1,o1,e,hF,_,_⟩:=I2.out.ls (by omega)
    rw[hL]at e
    injection e with e
    injection e with e
    subst e
    exact hF
   obtain⟨A,k',L,m⟩:=s
   dsimp only at hL
   subst hL
   have B2:=BoxC.of (show _ from y2.out)
   have l2:=B2.ls
   have t2:=hid B2.t
   have r2:=lk9.root
   have hAt:=hid (fun W hW=>Zjy (fun b=>b<w.heap.size) A k' c.t.ns c.t.root c.ls[k].root W hW hb.ns)
   generalize c.ls[k].root=rt at *
   have eA:atT ⟨c.t.ns,c.t.root⟩ rt=⟨c.t.ns,rt⟩∧atE ⟨c.t.ns,c.t.root⟩ rt=0:=by
    unfold mayA at hm
    simp only[Bool.and_eq_true]at hm
    have h0:atE ⟨c.t.ns,c.t.root⟩ rt=0:=by
     unfold atE
     rw[if_pos hmt,if_pos hm.1]
    refine⟨?_,h0⟩
    unfold atT
    rw[if_pos h0]
   rw[eA.1,eA.2]at hAt
   have hiT:=hid (show (Tryz.prog.info? 24).map (·.size)=some ([Value.slice A c.t.ns.length k',.int .i64 c.t.root]).length from Zah)
   have lt2:=hid (block_lt Z2.out)
   have hbw2:=hid hbw
   clear lk9 ok9 hbw hm hmt eA B2 hk
   go_wp2
   refine wp_region_noPanic ?_
   refine wp_region_held_drew (S:=fun W=>Chg (fun b=>b=w.heap.size+1) w2 W) (by kernel_rfl) ?_ (fun hHeld=>?_)
   ·exact Chg.of_bel (Zao w2)
   refine' tkP 0 rfl ?_
   refine' tkM 1 rfl (fun _ h=>Zak t2.out (fun hb=>h.block _ hb (by omega))) hut hiT.out ?_
   refine' tkP 2 rfl ?_
   refine' tkF 3 (fun W hSw=>YkP hSw (by dsimp only;omega) l2) rfl ?_
   simp only[sQ]
   refine' tkW 4 5 ?_
   refine' tkP 6 rfl ?_
   refine' tkF 7 (fun W hSw=>YkP hSw (by dsimp only;have:=hbw2.out;omega) r2) rfl ?_
   simp only[sQ]
   refine rdH 8 rfl fun K hK=>?_
   go_simp
   refine(hAt.out _ (I2.out.ns.chg hHeld (fun b hb _=>by omega))).mono ?_
   rintro r v1 ⟨A1,c1,rfl,o1,hB⟩
   have z1:=hid ((hB.block _ (block_lt (show w2.drew.heap[w.heap.size+1]? =_ from Z2.out))).trans Z2.out)
   go_wp2_with fail
   refine hK.out _ _ (hHeld.trans (Chg.of_bel hB)) fun hHeld=>?_
   clear hK K
   try simp only[sQ]
   refine' tkW 9 10 ?_
   simp only[sQ]
   refine rdH 11 rfl fun K hK=>?_
   refine Zaj rfl 24 (.tmp 4) (.tmp 27) rfl (w.heap.size+1) _ rfl rfl 24 zTrC z1.out Zah rfl (Zat _ _ _ _) ?_
   intro w3 d3 hG
   refine hK.out _ _ (hHeld.trans ((Chg.of_grown hG).mono (fun b _ e=>by injection e))) fun hHeld=>?_
   clear hK K
   try simp only[sQ]
   refine' tkP 12 rfl ?_
   simp only[sQ]
   refine dnN ?_
   go_wp2
   refine Vy0 (YkK Tryz.results11 _ _ (w.heap.size+1) [.slice A1 c.t.ns.length c1,.int .i64 rt] rfl (Zae (l:=[.slice A1 c.t.ns.length c1,.int .i64 rt]) d3) hut rfl Zah) rfl ⟨A1,c1,by rw[← e1.out,←e2.out];rfl,e1.out▸?_,W2.out.trans (hHeld.below W2.out.size (fun b hb=>by omega))⟩
   exact OwnR.base (OwnQ.keptAtP o1 hG (by have:=lt2.out;simpa using this) (by have:=lt2.out;simpa using this)) (by have:=W2.out.size;simpa using this)
def greatK(x:Lk):Bool:=greatB x.ds.length x.xs.length||decide (40<x.rs.length)
def greatC(c:Ch)(n:Nat):Bool:=greatT c.t.ns 900||(decide (n<c.ls.length)||c.ls.any greatK)
theorem Ylg{n m:Nat}(h:greatB n m=false):n≤20∧m≤20:=by
 unfold greatB at h
 rw[Bool.or_eq_false_iff]at h
 unfold bigB at h
 simp only[Bool.or_eq_false_iff,Bool.and_eq_false_iff,decide_eq_false_iff_not]at h
 omega
theorem Ynb{c:Ch}{n:Nat}(h:greatC c n=false)(hn:n≤100):ChB 900 c∧c.ls.length≤n∧∀x∈c.ls,x.ds.length≤20∧x.xs.length≤20∧x.rs.length≤40:=by
 unfold greatC at h
 simp only[Bool.or_eq_false_iff,decide_eq_false_iff_not]at h
 obtain⟨h1,h2,h3⟩:=h
 have hk:∀x∈c.ls,x.ds.length≤20∧x.xs.length≤20∧x.rs.length≤40:=fun x hx=>by
  have:=(List.any_eq_false.1 h3) x hx
  rw[Bool.not_eq_true]at this
  unfold greatK at this
  simp only[Bool.or_eq_false_iff,decide_eq_false_iff_not]at this
  have hb:=Ylg this.1
  omega
 unfold greatT at h1
 simp only[Bool.or_eq_false_iff,decide_eq_false_iff_not]at h1
 exact⟨⟨by omega,by omega,fun x hx=>by have:=hk x hx;omega⟩,by omega,hk⟩
theorem YmL{ls:List Lk}{j:Nat}(hj:j<ls.length)(h:(ls.take j).any greatK=false):(ls.take (j+1)).any greatK=greatK ls[j]:=by
 rw[Vy5 hj,List.any_append,h]
 simp
theorem Ym6{ls:List Lk}{j:Nat}(hj:j<ls.length)(h:greatK ls[j]=true):ls.any greatK=true:=List.any_eq_true.2 ⟨_,List.getElem_mem hj,h⟩
theorem Ylz(F:Nat→Prop)(c:Ch)(s:ChS)(n:Nat)(w:World)(h:ChIn F w c s)(hc:c.t.ns.length≤9223372036854775807)(hl:c.ls.length≤9223372036854775807):
  Calls Tryz.prog 15 #[.agg (chV c s).toArray,.int .i64 (n:Int)] w fun e w'=>e=.returned (.bool (greatC c n))∧Below w.heap.size w w':=by
 obtain⟨A,k,L,m⟩:=s
 have hut:=Tryz.underlying24
 have hub:=Tryz.underlying35
 have W0:=Zad w (.cells (chV c ⟨A,k,L,m⟩).toArray 27)
 have B0:=BoxC.new w A c.t.ns.length k c.t.root L c.ls.length m 27
 have hiT:=hid (show (Tryz.prog.info? 24).map (·.size)=some ([Value.slice A c.t.ns.length k,.int .i64 c.t.root]).length from Zah)
 have I0:=h.bel W0
 have y0:=hid (show (w.alloc (.cells (chV c ⟨A,k,L,m⟩).toArray 27)).rangeAt w.heap.size 0 [Value.slice A c.t.ns.length k,.int .i64 c.t.root] from B0.t)
 have B0':=hid (show BoxC (w.alloc (.cells (chV c ⟨A,k,L,m⟩).toArray 27)) w.heap.size A c.t.ns.length k c.t.root L c.ls.length m from B0)
 have hG:=hid (fun W hW=>ZaY F A k 900 c.t.ns c.t.root W hW hc)
 have R0:=hid I0.ns
 have L0:=hid I0.ls
 obtain⟨ans,hans⟩:∃v,greatC c n=v:=⟨_,rfl⟩
 rw[hans]
 unfold greatC at hans
 generalize greatT c.t.ns 900=g1 at *
 obtain⟨g2,hg2⟩:∃v,decide (n<c.ls.length)=v:=⟨_,rfl⟩
 rw[hg2]at hans
 have q2:decide ((c.ls.length:Int)>(n:Int))=g2:=by rw[← hg2,decide_eq_decide];omega
 replace hans:=hid hans
 replace W0:=hid W0
 clear h I0 B0 hc
 go_enter Tryz.func15,Tryz.ntmps15
 go_wp2_with ((with_reducible refine lDr y0.out hiT.out hut ?_))
 generalize w.alloc (.cells (chV c ⟨A,k,L,m⟩).toArray 27)=w0 at *
 refine(hG.out _ R0.out).mono ?_
 rintro e w1 ⟨rfl,hB⟩
 have L1:=hid (L0.out.bel hB)
 have B1:=hid (B0'.out.bel hB)
 have W1:=hid (W0.out.trans (hB.mono W0.out.size))
 have l1:=B1.out.ls
 clear hB hG R0 L0 B0' W0 y0
 cases g1 with
 |true=>
  have e1:=hid (show ans=true by rw[← hans.out];rfl)
  go_wp2
  go_ret
  exact⟨by rw[e1.out];rfl,W1.out⟩
 |false=>
  cases g2 with
  |true=>
   have e1:=hid (show ans=true by rw[← hans.out];rfl)
   go_wp2
   go_ret
   exact⟨by rw[e1.out];rfl,W1.out⟩
  |false=>
   have e9:=hid (show ans=c.ls.any greatK by rw[← hans.out];rfl)
   clear hans
   go_wp2
   go_loopw [5] (fun i wr=>∃j:Nat,j≤c.ls.length∧i=.int .i64 j∧(c.ls.take j).any greatK=false∧Below w1.heap.size w1 wr) (fun i _=>c.ls.length-(intOf i).toNat)
   case atStart=>exact⟨0,Nat.zero_le _,rfl,rfl,Below.refl _ _⟩
   case round=>
    obtain⟨j,hj,rfl,hrel,hb⟩:=hrel
    have l2:=(B1.out.bel hb).ls
    by_cases hlt:j<c.ls.length
    ·have hlt2:(j:Int)<(c.ls.length:Int):=by omega
     obtain⟨b,o,hA,s9,lk9,ok9⟩:=YkS (L1.out.bel hb) hlt
     subst hA
     have r9:=hid lk9.bd
     have hRk:=lk9
     have hGb:=hid (fun W=>Zgi s9.D s9.d (c.ls[j]).ds.length s9.X s9.e (c.ls[j]).xs.length W)
     have hw2:=hid (fun hq:(greatB (c.ls[j]).ds.length (c.ls[j]).xs.length||decide (40<(c.ls[j]).rs.length))=false=>(YmL hlt hrel).trans (show greatK c.ls[j]=false from hq))
     have hw3:=hid (fun hq:(greatB (c.ls[j]).ds.length (c.ls[j]).xs.length||decide (40<(c.ls[j]).rs.length))=true=>Ym6 hlt (show greatK c.ls[j]=true from hq))
     replace hRk:=hid hRk
     have l2':=hid ((B1.out.bel hb).ls)
     generalize c.ls[j]=x at *
     generalize greatB x.ds.length x.xs.length=p1 at *
     obtain⟨p2,hp2⟩:∃v,decide (40<x.rs.length)=v:=⟨_,rfl⟩
     rw[hp2]at hw2 hw3
     have q3:decide ((x.rs.length:Int)>40)=p2:=by rw[← hp2,decide_eq_decide];omega
     replace hp2:=hid hp2
     replace hb:=hid hb
     replace hrel:=hid hrel
     clear lk9 ok9
     go_wp2_with ((with_reducible refine lDr r9.out (ZfA _ _) hub ?_))
     refine(hGb.out _).mono ?_
     rintro e w3 ⟨rfl,hB⟩
     have Y3:=hid (hb.out.trans (hB.mono hb.out.size))
     have l3:=(B1.out.bel Y3.out).ls
     have rR:=(hRk.out.bel hB).R
     cases p1 with
     |true=>
      have e3:=hid (hw3.out rfl)
      clear l3 rR hw2 hw3
      go_wp2
      go_ret
      exact⟨by rw[e9.out,e3.out];rfl,W1.out.trans (Y3.out.mono W1.out.size)⟩
     |false=>
      cases p2 with
      |true=>
       have e3:=hid (hw3.out rfl)
       clear hw2 hw3
       go_wp2
       go_ret
       exact⟨by rw[e9.out,e3.out];rfl,W1.out.trans (Y3.out.mono W1.out.size)⟩
      |false=>
       have e3:=hid (hw2.out rfl)
       clear hw2 hw3
       go_wp2
       go_roundw
       case rel=>exact⟨j+1,by omega,by go_num,e3.out,Y3.out⟩
       case measure=>simp[intOf];omega
    ·obtain rfl:j=c.ls.length:=by omega
     rw[List.take_length]at hrel
     replace hrel:=hid hrel
     go_wp2
     go_ret
     exact⟨by rw[e9.out,hrel.out];rfl,W1.out.trans (hb.mono W1.out.size)⟩
def sameK(x y:Lk):Bool:=decide (x.h=y.h)&&((decide (x.ds=y.ds)&&decide (x.xs=y.xs))&&decide (x.rs=y.rs))
theorem Yls(F G:Nat→Prop)(x y:Lk)(s t:LkS)(w:World)(h1:LkOk F w x s)(h2:LkOk G w y t)(l1:x.ds.length≤1000000)(l2:x.xs.length≤1000000)(l3:x.rs.length≤1000000)(l4:y.rs.length≤1000000):
  Calls Tryz.prog 35 #[.agg (lkC x s).toArray,.agg (lkC y t).toArray] w fun e w'=>e=.returned (.bool (sameK x y))∧Below w.heap.size w w':=by
 have huh:=Tryz.underlying51
 have hub:=Tryz.underlying35
 have A0:=Zae (l:=lkC x s) (Vx0 w (.cells (lkC x s).toArray 77))
 have A1:=Zab (Zad _ (.cells (lkC y t).toArray 77)) A0
 have A2:=Zae (l:=lkC y t) (Vx0 (w.alloc (.cells (lkC x s).toArray 77)) (.cells (lkC y t).toArray 77))
 simp only[Vx2]at A2
 have W0:=hid (Zag (Zad w (.cells (lkC x s).toArray 77)) (Zad _ (.cells (lkC y t).toArray 77)))
 have LA:=hid (LkAt.of A1)
 have LB:=hid (LkAt.of A2)
 have KA:=hid (h1.bel W0.out)
 have KB:=hid (h2.bel W0.out)
 have c1:=LA.out.R
 have c2:=LB.out.R
 have b1:=hid (show ((w.alloc (.cells (lkC x s).toArray 77)).alloc (.cells (lkC y t).toArray 77)).rangeAt w.heap.size 99 [.slice s.D x.ds.length s.d,.slice s.X x.xs.length s.e] from LA.out.bd)
 have b2:=hid (show ((w.alloc (.cells (lkC x s).toArray 77)).alloc (.cells (lkC y t).toArray 77)).rangeAt (w.heap.size+1) 99 [.slice t.D y.ds.length t.d,.slice t.X y.xs.length t.e] from LB.out.bd)
 have a1:=hid LA.out.hd
 have a2:=hid LB.out.hd
 have j1:=hid (Zbu x.h)
 have j2:=hid (Zbu y.h)
 have hSb:=hid (fun W k1 k2 k3 k4=>Zpd F G F G s.D s.d x.ds s.X s.e x.xs t.D t.d y.ds t.X t.e y.xs W k1 k2 k3 k4 l1 l2)
 have hSr:=hid (fun W k1 k2=>ZmC F G s.R t.R s.r t.r x.rs y.rs W k1 k2 (by omega) (by omega))
 obtain⟨q1,hq1⟩:∃v,decide (x.h=y.h)=v:=⟨_,rfl⟩
 have hE:∀W,(Op.equalIn 10000 51 (.agg (hdC x.h).toArray) (.agg (hdC y.h).toArray)).run Tryz.prog W=.ok q1 W:=fun W=>ZhR x.h y.h h1.hd h2.hd q1 hq1 W
 unfold sameK
 rw[hq1]
 generalize (decide (x.ds=y.ds)&&decide (x.xs=y.xs))=q2 at *
 generalize decide (x.rs=y.rs)=q3 at *
 replace c1:=hid c1
 replace c2:=hid c2
 clear h1 h2 hq1 A0 A1 A2 LA LB
 go_enter Tryz.func35,Tryz.ntmps35
 generalize hdC x.h=ch1 at *
 generalize hdC y.h=ch2 at *
 cases q1 with
 |false=>
  go_wp2_with (first
   |(with_reducible refine lDr a1.out j1.out huh ?_)
   |(with_reducible refine lDr a2.out j2.out huh ?_))
  go_ret
  exact⟨rfl,W0.out⟩
 |true=>
  go_wp2_with (first
   |(with_reducible refine lDr a1.out j1.out huh ?_)
   |(with_reducible refine lDr a2.out j2.out huh ?_)
   |(with_reducible refine lDr b1.out (ZfA _ _) hub ?_)
   |(with_reducible refine lDr b2.out (ZfA _ _) hub ?_))
  refine(hSb.out _ KA.out.ds KB.out.ds KA.out.xs KB.out.xs).mono ?_
  rintro e w3 ⟨rfl,hB⟩
  have W3:=hid (W0.out.trans (hB.mono W0.out.size))
  have K3:=hid (KA.out.bel hB)
  have J3:=hid (KB.out.bel hB)
  have d1:=(hB.cell (Vx5 _ _ c1.out)).trans c1.out
  have d2:=(hB.cell (Vx5 _ _ c2.out)).trans c2.out
  simp only[Nat.zero_add]at d1 d2
  clear hB KA KB W0 c1 c2
  cases q2 with
  |false=>
   go_wp2
   go_ret
   exact⟨rfl,W3.out⟩
  |true=>
   go_wp2_with fail
   refine(hSr.out _ K3.out.rs J3.out.rs).mono ?_
   rintro e w4 ⟨rfl,hB⟩
   go_wp2
   go_ret
   exact⟨by cases q3<;>rfl,W3.out.trans (hB.mono W3.out.size)⟩
theorem YmH{c:Ch}(hm:mayC c=true){k:Nat}(hk:k<c.ls.length):stateE c (k:Int)=0∧stateR c (k:Int)=⟨c.t.ns,c.ls[k].root⟩:=by
 refine⟨(YlQ hm hk).1,?_⟩
 unfold stateR
 rw[if_pos ⟨hm,by omega,by omega⟩,Int.toNat_natCast,Vx9 hk]
 rfl
theorem YmQ{t:Tr}(h:mayA t=true):mayT t=true:=by
 unfold mayA at h
 simp only[Bool.and_eq_true]at h
 exact h.1
theorem YlG{t:Tr}(h:mayT t=true):pairsM t=allT t:=by
 unfold pairsM
 rw[if_pos h]
def TellsJ(c:Ch)(l:Lk)(j:Nat)(ps:List Pr):Prop:=stateE c (j:Int)=0∧stateR c (j:Int)=⟨c.t.ns,l.root⟩∧mayT ⟨c.t.ns,l.root⟩=true∧pairsM ⟨c.t.ns,l.root⟩=ps∧c.t.ns.length≤1000000
theorem Yl1{c:Ch}(hm:mayC c=true){k:Nat}(hk:k<c.ls.length):TellsJ c c.ls[k] k (allT ⟨c.t.ns,c.ls[k].root⟩):=by
 have h1:=YmH hm hk
 have h2:=YmQ (Yk7 hm hk).1
 obtain⟨_,_,_,h3,_⟩:=YkM.1 hm
 have:=(ZaX.1 h3).1
 exact⟨h1.1,h1.2,h2,YlG h2,by omega⟩
def SameAt(c d:Ch)(k:Nat):Prop:=∃(h1:k<c.ls.length) (h2:k<d.ls.length),sameK c.ls[k] d.ls[k]=true
theorem YmV{x y:Lk}(h:sameK x y=true):x.h=y.h∧x.ds=y.ds∧x.xs=y.xs∧x.rs=y.rs:=by
 unfold sameK at h
 simp only[Bool.and_eq_true,decide_eq_true_eq]at h
 exact⟨h.1,h.2.1.1,h.2.1.2,h.2.2⟩
theorem Ymk(x:Lk):sameK x x=true:=by unfold sameK;simp
theorem Yma{c x y:Ch}{ads bds:List Dp}{axs bxs:List Tx}{box:Dg}(ha:addE c ads axs box=0)(hb:addE c bds bxs box=0)(hx:AddOk c ads axs box x)(hy:AddOk c bds bxs box y):
  0<c.ls.length∧(cutE x ((c.ls.length-1:Nat):Int)=0∧cutR x ((c.ls.length-1:Nat):Int)=cutC x (c.ls.length-1))∧(cutC x (c.ls.length-1)).ls=c.ls∧(cutC x (c.ls.length-1)).t.ns=x.t.ns∧addE (cutC x (c.ls.length-1)) bds bxs box=0∧
  (∀ j (hj:j<c.ls.length),∃ps,TellsJ c c.ls[j] j ps∧TellsJ (cutC x (c.ls.length-1)) c.ls[j] j ps)∧
  ∀z,AddOk (cutC x (c.ls.length-1)) bds bxs box z→z.ls.length=c.ls.length+1∧y.ls.length=c.ls.length+1∧SameAt z y c.ls.length:=by
 obtain⟨hm,hl,a1,o1,ho1,rfl⟩:=Yle ha hx
 obtain⟨_,_,b1,o2,ho2,rfl⟩:=Yle hb hy
 have hpos:=(Ylb hm).1
 have hxm:=YlN hm hl a1 ho1
 have hk:c.ls.length-1<(addC c o1 (applyH c.t (topH c) ads axs box) ads axs (applyR c.t (topH c) ads axs box)).ls.length:=by
  show _<(c.ls++[_]).length
  simp
  omega
 have hcut:=YlQ hxm hk
 have hcm:=YlP hxm hk
 obtain⟨_,_,_,r,ho4⟩:=Zc4 a1 ho1
 have hcr:=YkV hk
 have hat:(addC c o1 (applyH c.t (topH c) ads axs box) ads axs (applyR c.t (topH c) ads axs box)).ls[c.ls.length-1]=c.ls[c.ls.length-1]'(by omega):=List.getElem_append_left (by omega)
 rw[hat]at hcr
 have hls:(cutC (addC c o1 (applyH c.t (topH c) ads axs box) ads axs (applyR c.t (topH c) ads axs box)) (c.ls.length-1)).ls=c.ls:=by
  rw[hcr]
  show (c.ls++[_]).take (c.ls.length-1+1)=c.ls
  rw[show c.ls.length-1+1=c.ls.length by omega,List.take_left']
  rfl
 have hns:(cutC (addC c o1 (applyH c.t (topH c) ads axs box) ads axs (applyR c.t (topH c) ads axs box)) (c.ls.length-1)).t.ns=c.t.ns++r:=by rw[hcr];exact ho4
 have htr:(cutC (addC c o1 (applyH c.t (topH c) ads axs box) ads axs (applyR c.t (topH c) ads axs box)) (c.ls.length-1)).t=⟨c.t.ns++r,(c.ls[c.ls.length-1]'(by omega)).root⟩:=by
  rw[hcr]
  show (⟨o1.ns,_⟩:Tr)=_
  rw[ho4]
 have hnx:(addC c o1 (applyH c.t (topH c) ads axs box) ads axs (applyR c.t (topH c) ads axs box)).t.ns=c.t.ns++r:=ho4
 generalize addC c o1 (applyH c.t (topH c) ads axs box) ads axs (applyR c.t (topH c) ads axs box)=x at *
 generalize cutC x (c.ls.length-1)=cb at *
 have hall:∀j (hj:j<c.ls.length),allT ⟨c.t.ns++r,c.ls[j].root⟩=allT ⟨c.t.ns,c.ls[j].root⟩:=fun j hj=>by
  obtain⟨_,_,_,hmt,_⟩:=YkM.1 hm
  obtain⟨_,_,_,ho,_⟩:=ZaX.1 hmt
  obtain⟨_,⟨q0,q1,_⟩,_⟩:=Yk4 hm hj
  exact Zhd ho 256 _ q0 q1
 have htop:topH cb=topH c:=by
  unfold topH
  rw[hls]
 have hlast:=(YkM.1 hm)
 obtain⟨l,k1,k2,k3,k4,k5⟩:=hlast
 obtain⟨hi9,hL9⟩:=last_at k1
 have hmA:mayA cb.t=mayA c.t:=by
  have h1:=Yk7 hcm (k:=c.ls.length-1) (by rw[hls];omega)
  have e:(⟨cb.t.ns,(cb.ls[c.ls.length-1]'(by rw[hls];omega)).root⟩:Tr)=cb.t:=by
   rw[htr]
   simp only[hls]
  rw[e]at h1
  rw[h1.1,(ZeI b1).1]
 have hAl:allT cb.t=allT c.t:=by
  rw[htr,hall _ (by omega),hL9,←k4]
 obtain⟨e1,e2,e3,e4⟩:=YlF hmA hAl (topH c) bds bxs box
 have hadd:addE cb bds bxs box=0:=by
  unfold addE
  rw[if_pos hcm,hls,if_neg (by omega),htop,e1]
  exact b1
 refine⟨hpos,hcut,hls,by rw[hns,hnx],hadd,fun j hj=>?_,fun z hz=>?_⟩
 ·have t1:=Yl1 hm hj
  have t2:=Yl1 hcm (k:=j) (by rw[hls];exact hj)
  have ej:(cb.ls[j]'(by rw[hls];exact hj))=c.ls[j]:=by simp only[hls]
  rw[ej]at t2
  refine⟨_,t1,?_⟩
  rw[hns,hall j hj]at t2
  exact t2
 ·obtain⟨_,_,_,o3,ho3,rfl⟩:=Yle hadd hz
  have g1:(addC cb o3 (applyH cb.t (topH cb) bds bxs box) bds bxs (applyR cb.t (topH cb) bds bxs box)).ls=c.ls++[⟨applyH c.t (topH c) bds bxs box,o3.root,bds,bxs,applyR c.t (topH c) bds bxs box⟩]:=by
   show cb.ls++[_]=_
   rw[hls,htop,e3,e4]
  have g2:(addC c o2 (applyH c.t (topH c) bds bxs box) bds bxs (applyR c.t (topH c) bds bxs box)).ls=c.ls++[⟨applyH c.t (topH c) bds bxs box,o2.root,bds,bxs,applyR c.t (topH c) bds bxs box⟩]:=rfl
  unfold SameAt
  simp only[g1,g2]
  refine⟨by simp,by simp,by simp,by simp,?_⟩
  rw[List.getElem_append_right (Vx8 _),List.getElem_append_right (Vx8 _)]
  simp only[Nat.sub_self,List.getElem_cons_zero]
  unfold sameK
  simp
end Go.Proofs.YtiglglcfcfjigaaGreatDoor
