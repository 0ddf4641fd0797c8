import Derived.Test.YtnnclggeifnomaaGreatDoorCaB
set_option maxRecDepth 100000
set_option linter.all false
set_option maxHeartbeats 4000000
namespace Go.Proofs.YtnnclggeifnomaaGreatDoor
open Go.RowKit
def atE(t:Tr)(r:Int):Int:=if mayT t=true then (if mayT ⟨t.ns,r⟩=true then 0 else 2) else 8
def atT(t:Tr)(r:Int):Tr:=if atE t r=0 then ⟨t.ns,r⟩ else ⟨[],0⟩
theorem YfR{t:Tr}{r:Int}(h:¬atE t r=0):atT t r=⟨[],0⟩:=by unfold atT;rw[if_neg h]
theorem Zyp(w:World)(A:Option Addr)(n c:Nat)(root:Int):
  ((w.alloc (.cells #[.slice A n c,.int .i64 root] 24)).alloc (.cells zTrC 24)).heap[w.heap.size]? =some (.cells #[.slice A n c,.int .i64 root] 24)∧
  ((w.alloc (.cells #[.slice A n c,.int .i64 root] 24)).alloc (.cells zTrC 24)).heap[w.heap.size+1]? =some (.cells zTrC 24)∧
  Below w.heap.size w ((w.alloc (.cells #[.slice A n c,.int .i64 root] 24)).alloc (.cells zTrC 24)):=by
 have h1:=Vx0 w (.cells #[.slice A n c,.int .i64 root] 24)
 have h2:=Vx0 (w.alloc (.cells #[.slice A n c,.int .i64 root] 24)) (.cells zTrC 24)
 rw[Vx2]at h2
 exact⟨((Zad _ _).block _ (block_lt h1)).trans h1,h2,Zag (Zad _ _) (Zad _ _)⟩
theorem Zjy(F:Nat→Prop)(A:Option Addr)(c:Nat)(ns:List Nd)(root r:Int)(w:World)(hr:Row F w A ns)(hc:ns.length≤1000000):
  Calls Tryz.prog 45 #[.agg #[.slice A ns.length c,.int .i64 root],.int .i64 r] w fun e w'=>∃A' c',e=.returned (.tuple #[.agg #[.slice A' (atT ⟨ns,root⟩ r).ns.length c',.int .i64 (atT ⟨ns,root⟩ r).root],.int .i64 (atE ⟨ns,root⟩ r)])∧OwnR 106 w' w.heap.size A' c' (atT ⟨ns,root⟩ r).ns∧Below w.heap.size w w':=by
 obtain⟨hb0,hz0,W0⟩:=Zyp w A ns.length c root
 have hr0:=hr.bel W0
 have hut:=Tryz.underlying24
 have hiT:=hid (show (Tryz.prog.info? 24).map (·.size)=some ([Value.slice A ns.length c,.int .i64 root]).length from Zah)
 have hiR:=hid (show (Tryz.prog.info? 24).map (·.size)=some ([Value.slice A ns.length c,.int .i64 r]).length from Zah)
 have hb0t:=hid ZbU
 obtain⟨m,hm⟩:∃m,mayT ⟨ns,root⟩=m:=⟨_,rfl⟩
 have hC:=hid (fun W hW=>ZdG F A c ns root m W hW (by omega) hm)
 obtain⟨m2,hm2⟩:∃m2,mayT ⟨ns,r⟩=m2:=⟨_,rfl⟩
 have hC2:=hid (fun W hW=>ZdG F A c ns r m2 W hW (by omega) hm2)
 replace hz0:=hid hz0
 cases m with
 |false=>
  have hE:atE ⟨ns,root⟩ r=8:=by unfold atE;rw[hm];rfl
  rw[YfR (by rw[hE];decide),hE]
  clear hm hm2
  go_enter Tryz.func45,Tryz.ntmps45
  go_wp2_with (first
   |(with_reducible refine Zac rfl 24 rfl zTrC Zas ?_)
   |(with_reducible refine lDr (Zae (l:=[Value.slice A ns.length c,.int .i64 root]) hb0) hiT.out hut ?_))
  generalize (w.alloc (.cells #[.slice A ns.length c,.int .i64 root] 24)).alloc (.cells zTrC 24)=w0 at *
  refine(hC.out _ hr0).mono ?_
  rintro e w1 ⟨rfl,hb⟩
  have z1:=hid ((hb.block _ (block_lt hz0.out)).trans hz0.out)
  have W1:=hid (W0.trans (hb.mono W0.size))
  go_wp2_with (first
   |((with_reducible refine Zaf rfl 24 _ rfl zTrC [] ?_ ?_ ?_);exact hb0t.out;rfl)
   |((with_reducible refine stW 4 11 (w.heap.size+1) 24 zTrC ?_ ?_ ?_ ?_ ?_);exact z1.out;exact Zah;rfl;exact ZeP;intro w9 hg9 hb9 hs9))
  exact Vy0 (Zce Tryz.results45 _ _ (w.heap.size+1) none 0 0 0 rfl hg9) rfl ⟨none,0,rfl,OwnR.nil _ _,W1.out.grown hb9 W1.out.size (fun g e=>by injection e with e;omega)⟩
 |true=>
  have hTw:=hid (fun W hW=>ZeC F A c ns r W hW hc (fun x hx=>Vx1 (ZjZ hm x hx) (by decide)))
  have hE:atE ⟨ns,root⟩ r=if m2=true then 0 else 2:=by unfold atE;rw[hm,hm2];rfl
  cases m2 with
  |false=>
   rw[if_neg (by decide)]at hE
   rw[YfR (by rw[hE];decide),hE]
   clear hm hm2 hTw
   go_enter Tryz.func45,Tryz.ntmps45
   go_wp2_with (first
    |(with_reducible refine Zac rfl 24 rfl zTrC Zas ?_)
    |(with_reducible refine lDr (Zae (l:=[Value.slice A ns.length c,.int .i64 root]) hb0) hiT.out hut ?_))
   generalize (w.alloc (.cells #[.slice A ns.length c,.int .i64 root] 24)).alloc (.cells zTrC 24)=w0 at *
   refine(hC.out _ hr0).mono ?_
   rintro e w1 ⟨rfl,hb⟩
   have h1:=(hb.block _ (block_lt hb0)).trans hb0
   have y1:=Zaq h1 1
   have f1:=Zap h1 1
   simp only[List.getElem?_toArray,List.getElem?_cons_zero,List.getElem?_cons_succ]at y1
   have g2:=ZaD h1 1 (.int .i64 r)
   rw[show (#[Value.slice A ns.length c,.int .i64 root]:Array Value).setIfInBounds 1 (.int .i64 r)=#[.slice A ns.length c,.int .i64 r] from rfl]at g2
   have s2:=hid (Zae (l:=[Value.slice A ns.length c,.int .i64 r]) g2)
   have z2:=hid ((Vy3 w1 ⟨w.heap.size,1,none⟩ (.int .i64 r) (w.heap.size+1) (by simp)).trans ((hb.block _ (block_lt hz0.out)).trans hz0.out))
   have W2:=hid ((W0.trans (hb.mono W0.size)).setCell (p:=⟨w.heap.size,1,none⟩) (Vx8 _) (.int .i64 r))
   have r2:=hid (hr.bel W2.out)
   clear hb hb0 hz0 W0 hr0 h1 g2
   go_wp2_with ((with_reducible refine lDr s2.out hiR.out hut ?_))
   refine(hC2.out _ r2.out).mono ?_
   rintro e w3 ⟨rfl,hb⟩
   have z3:=hid ((hb.block _ (block_lt z2.out)).trans z2.out)
   have W3:=hid (W2.out.trans (hb.mono W2.out.size))
   go_wp2_with (first
    |((with_reducible refine Zaf rfl 24 _ rfl zTrC [] ?_ ?_ ?_);exact hb0t.out;rfl)
    |((with_reducible refine stW 4 18 (w.heap.size+1) 24 zTrC ?_ ?_ ?_ ?_ ?_);exact z3.out;exact Zah;rfl;exact ZeP;intro w9 hg9 hb9 hs9))
   exact Vy0 (Zce Tryz.results45 _ _ (w.heap.size+1) none 0 0 0 rfl hg9) rfl ⟨none,0,rfl,OwnR.nil _ _,W3.out.grown hb9 W3.out.size (fun g e=>by injection e with e;omega)⟩
  |true=>
   rw[if_pos rfl]at hE
   have hT:atT ⟨ns,root⟩ r=⟨ns,r⟩:=by unfold atT;rw[if_pos hE]
   rw[hT,hE]
   dsimp only
   clear hm hm2 hE hT
   go_enter Tryz.func45,Tryz.ntmps45
   go_wp2_with (first
    |(with_reducible refine Zac rfl 24 rfl zTrC Zas ?_)
    |(with_reducible refine lDr (Zae (l:=[Value.slice A ns.length c,.int .i64 root]) hb0) hiT.out hut ?_))
   generalize (w.alloc (.cells #[.slice A ns.length c,.int .i64 root] 24)).alloc (.cells zTrC 24)=w0 at *
   refine(hC.out _ hr0).mono ?_
   rintro e w1 ⟨rfl,hb⟩
   have h1:=(hb.block _ (block_lt hb0)).trans hb0
   have y1:=Zaq h1 1
   have f1:=Zap h1 1
   simp only[List.getElem?_toArray,List.getElem?_cons_zero,List.getElem?_cons_succ]at y1
   have g2:=ZaD h1 1 (.int .i64 r)
   rw[show (#[Value.slice A ns.length c,.int .i64 root]:Array Value).setIfInBounds 1 (.int .i64 r)=#[.slice A ns.length c,.int .i64 r] from rfl]at g2
   have s2:=hid (Zae (l:=[Value.slice A ns.length c,.int .i64 r]) g2)
   have z2:=hid ((Vy3 w1 ⟨w.heap.size,1,none⟩ (.int .i64 r) (w.heap.size+1) (by simp)).trans ((hb.block _ (block_lt hz0.out)).trans hz0.out))
   have W2:=hid ((W0.trans (hb.mono W0.size)).setCell (p:=⟨w.heap.size,1,none⟩) (Vx8 _) (.int .i64 r))
   have r2:=hid (hr.bel W2.out)
   clear hb hb0 hz0 W0 hr0 h1 g2
   go_wp2_with ((with_reducible refine lDr s2.out hiR.out hut ?_))
   refine(hC2.out _ r2.out).mono ?_
   rintro e w3 ⟨rfl,hb⟩
   have z3:=hid ((hb.block _ (block_lt z2.out)).trans z2.out)
   have s3:=hid (Zab hb s2.out)
   have r3:=hid (r2.out.bel hb)
   have W3:=hid (W2.out.trans (hb.mono W2.out.size))
   clear hb z2 s2 r2 W2
   go_wp2_with ((with_reducible refine lDr s3.out hiR.out hut ?_))
   refine(hTw.out _ r3.out).mono ?_
   rintro e w5 ⟨A5,c5,rfl,ho5,hb⟩
   have z5:=hid ((hb.block _ (block_lt z3.out)).trans z3.out)
   have W5:=hid (W3.out.trans (hb.mono W3.out.size))
   have s5:=hid (block_lt z3.out)
   clear hb
   go_wp2_with (((with_reducible refine stW 4 20 (w.heap.size+1) 24 zTrC ?_ ?_ ?_ ?_ ?_);exact z5.out;exact Zah;rfl;exact Zat A5 ns.length c5 r;intro w9 hg9 hb9 hs9))
   exact Vy0 (Zce Tryz.results45 _ _ (w.heap.size+1) A5 ns.length c5 r rfl hg9) rfl ⟨A5,c5,rfl,OwnR.base (OwnQ.keptAtP ho5 hb9 (by have:=s5.out;omega) (by have:=s5.out;omega)) (by have:=s5.out;omega),W5.out.grown hb9 W5.out.size (fun g e=>by injection e with e;omega)⟩
def stateE(c:Ch)(h:Int):Int:=cutE c h
def stateR(c:Ch)(h:Int):Tr:=if mayC c=true∧0≤h∧h<(c.ls.length:Int) then ⟨c.t.ns,((c.ls[h.toNat]?).map Lk.root).getD 0⟩ else ⟨[],0⟩
theorem Yk7{c:Ch}(h:mayC c=true){k:Nat}(hk:k<c.ls.length):mayA ⟨c.t.ns,c.ls[k].root⟩=true∧allT (verT c.t.ns c.ls[k].root)=allT ⟨c.t.ns,c.ls[k].root⟩:=by
 obtain⟨l,k1,k2,k3,k4,k5⟩:=YkM.1 h
 obtain⟨_,⟨q0,q1,q2⟩,_⟩:=Yk4 h hk
 obtain⟨e1,e2⟩:=Ylv (root:=c.t.root) k3 q0 q1
 refine⟨?_,e2⟩
 unfold mayA at q2 ⊢
 rw[← e1,←e2]
 exact q2
theorem Ym9(w:World)(l:List Value)(t u:TypeId):
  let W:=(w.alloc (.cells l.toArray t)).alloc (.cells zTrC u)
  W.rangeAt w.heap.size 0 l∧W.heap[w.heap.size+1]? =some (.cells zTrC u (0,0))∧Below w.heap.size w W:=by
 intro W
 have h1:=Zae (Vx0 w (.cells l.toArray t))
 have h2:=Vx0 (w.alloc (.cells l.toArray t)) (.cells zTrC u)
 simp only[Vx2]at h2
 exact⟨Zab (Zad _ _) h1,h2,Zag (Zad _ _) (Zad _ _)⟩
theorem Ylk(F:Nat→Prop)(c:Ch)(s:ChS)(h:Int)(w:World)(hi:ChIn F w c s)(hb:ChB 1000000 c)(hT:Tab w):
  Calls Tryz.prog 11 #[.agg (chV c s).toArray,.int .i64 h] w fun e w'=>∃A' c',e=.returned (.tuple #[.agg #[.slice A' (stateR c h).ns.length c',.int .i64 (stateR c h).root],.int .i64 (stateE c h)])∧OwnR 106 w' w.heap.size A' c' (stateR c h).ns∧Below w.heap.size w w':=by
 have huc:=Tryz.underlying27
 have hut:=Tryz.underlying24
 obtain⟨Y0,Z0,W0⟩:=Ym9 w (chV c s) 27 24
 have hiC:=hid (YkJ c s)
 have I0:=hid ((hi.mono (G:=fun b=>b<w.heap.size) fun b _ h=>h).bel W0)
 have T0:=hid (hT.bel W0 hT.low)
 have hCk:=hid (fun W h1 h2=>YkQ (fun b=>b<w.heap.size) c s W h1 hb h2)
 have hHh:=hid (fun W=>YkX s.A c.t.ns.length s.k c.t.root s.L c.ls.length s.m h W)
 obtain⟨q,hq⟩:∃v,mayC c=v:=⟨_,rfl⟩
 obtain⟨p,hp⟩:∃v,(decide (0≤h)&&decide (h<(c.ls.length:Int)))=v:=⟨_,rfl⟩
 obtain⟨cc,hcc⟩:∃v,stateR c h=v:=⟨_,rfl⟩
 obtain⟨z,hz⟩:∃v,stateE c h=v:=⟨_,rfl⟩
 rw[hcc,hz]
 unfold stateR at hcc
 unfold stateE cutE at hz
 have hN:Hid (q=false→(⟨[],0⟩:Tr)=cc∧(8:Int)=z):=hid fun e=>by
  rw[← hcc,←hz,hq,e]
  exact⟨rfl,rfl⟩
 have hA:Hid (q=true→p=false→(⟨[],0⟩:Tr)=cc∧(2:Int)=z):=hid fun e e2=>by
  have:¬(0≤h∧h<(c.ls.length:Int)):=fun ⟨h1,h2⟩=>by rw[← hp,Vy2 h1,Vy2 h2]at e2;cases e2
  rw[← hcc,←hz,hq,e,if_neg (fun h=>this h.2),if_pos rfl,if_neg this]
  exact⟨rfl,rfl⟩
 have hO:Hid (q=true→p=true→∃(k:Nat) (hk:k<c.ls.length),h=(k:Int)∧(⟨c.t.ns,c.ls[k].root⟩:Tr)=cc∧(0:Int)=z∧mayA ⟨c.t.ns,c.ls[k].root⟩=true∧mayT c.t=true):=hid fun e e2=>by
  rw[← hp,Bool.and_eq_true,decide_eq_true_eq,decide_eq_true_eq]at e2
  refine⟨h.toNat,by omega,by omega,?_,?_,(Yk7 (hq.trans e) (by omega)).1,(YkM.1 (hq.trans e)).choose_spec.2.2.1⟩
  ·rw[← hcc,hq,e,if_pos ⟨rfl,e2⟩,Vx9 (show h.toNat<c.ls.length by omega)]
   rfl
  ·rw[← hz,hq,e,if_pos rfl,if_pos e2]
 rw[hq]at hCk
 rw[hp]at hHh
 replace W0:=hid W0
 replace Z0:=hid Z0
 have zb:=hid ZbU
 have y0:=hid Y0
 clear hT hq hp hcc hz hi Y0
 go_enter Tryz.func11,Tryz.ntmps11
 go_wp2_with (first
  |(with_reducible refine Zac rfl 24 rfl zTrC Zas ?_)
  |(with_reducible refine lDr y0.out hiC.out huc ?_))
 try simp only[Vx2]
 generalize (w.alloc (.cells (chV c s).toArray 27)).alloc (.cells zTrC 24)=w0 at *
 refine(hCk.out _ I0.out T0.out).mono ?_
 rintro e w1 ⟨rfl,hB⟩
 have I1:=hid (I0.out.bel hB)
 have Z1:=hid ((hB.block _ (block_lt Z0.out)).trans Z0.out)
 have y1:=hid (Zab hB y0.out)
 have W1:=hid (W0.out.trans (hB.mono W0.out.size))
 clear hB hCk Z0 I0 W0 T0 y0
 cases q with
 |false=>
  obtain⟨e1,e2⟩:=hN.out (by first|trivial|rfl)
  replace e1:=hid e1
  replace e2:=hid e2
  go_wp2_with (first
   |((with_reducible refine Zaf rfl 24 _ rfl zTrC [] ?_ ?_ ?_);exact zb.out;rfl)
   |((with_reducible refine stW 4 11 (w.heap.size+1) 24 zTrC ?_ ?_ ?_ ?_ ?_);exact Z1.out;exact Zah;rfl;exact Zat none 0 0 0;intro w2 hgS hbS hsS))
  exact Vy0 (YkK Tryz.results11 _ _ (w.heap.size+1) [.slice none 0 0,.int .i64 0] rfl (Zae (l:=[.slice none 0 0,.int .i64 0]) hgS) hut rfl Zah) rfl ⟨none,0,by rw[← e1.out,←e2.out];rfl,e1.out▸OwnR.nil _ _,W1.out.grown hbS W1.out.size (fun g e=>by injection e with e;omega)⟩
 |true=>
  go_wp2_with ((with_reducible refine lDr y1.out hiC.out huc ?_))
  refine(hHh.out _).mono ?_
  rintro e w2 ⟨rfl,hB⟩
  have I2:=hid (I1.out.bel hB)
  have Z2:=hid ((hB.block _ (block_lt Z1.out)).trans Z1.out)
  have y2:=hid (Zab hB y1.out)
  have W2:=hid (W1.out.trans (hB.mono W1.out.size))
  clear hB hHh Z1 I1 W1 y1 hN
  cases p with
  |false=>
   obtain⟨e1,e2⟩:=hA.out (by first|trivial|rfl) (by first|trivial|rfl)
   replace e1:=hid e1
   replace e2:=hid e2
   go_wp2_with (first
    |((with_reducible refine Zaf rfl 24 _ rfl zTrC [] ?_ ?_ ?_);exact zb.out;rfl)
    |((with_reducible refine stW 4 17 (w.heap.size+1) 24 zTrC ?_ ?_ ?_ ?_ ?_);exact Z2.out;exact Zah;rfl;exact Zat none 0 0 0;intro w3 hgS hbS hsS))
   exact Vy0 (YkK Tryz.results11 _ _ (w.heap.size+1) [.slice none 0 0,.int .i64 0] rfl (Zae (l:=[.slice none 0 0,.int .i64 0]) hgS) hut rfl Zah) rfl ⟨none,0,by rw[← e1.out,←e2.out];rfl,e1.out▸OwnR.nil _ _,W2.out.grown hbS W2.out.size (fun g e=>by injection e with e;omega)⟩
  |true=>
   obtain⟨k,hk,rfl,e1,e2,hm,hmt⟩:=hO.out (by first|trivial|rfl) (by first|trivial|rfl)
   replace e1:=hid e1
   replace e2:=hid e2
   have hk2:(k:Int)<(c.ls.length:Int):=by omega
   obtain⟨b,o,hL,s9,lk9,ok9⟩:=YkS I2.out.ls hk
   have hbw:b<w.heap.size:=by
    obtain⟨b1,o1,e,hF,_,_⟩:=I2.out.ls (by omega)
    rw[hL]at e
    injection e with e
    injection e with e
    subst e
    exact hF
   obtain⟨A,k',L,m⟩:=s
   dsimp only at hL
   subst hL
   have B2:=BoxC.of (show _ from y2.out)
   have l2:=B2.ls
   have t2:=hid B2.t
   have r2:=lk9.root
   have hAt:=hid (fun W hW=>Zjy (fun b=>b<w.heap.size) A k' c.t.ns c.t.root c.ls[k].root W hW hb.ns)
   generalize c.ls[k].root=rt at *
   have eA:atT ⟨c.t.ns,c.t.root⟩ rt=⟨c.t.ns,rt⟩∧atE ⟨c.t.ns,c.t.root⟩ rt=0:=by
    unfold mayA at hm
    simp only[Bool.and_eq_true]at hm
    have h0:atE ⟨c.t.ns,c.t.root⟩ rt=0:=by
     unfold atE
     rw[if_pos hmt,if_pos hm.1]
    refine⟨?_,h0⟩
    unfold atT
    rw[if_pos h0]
   rw[eA.1,eA.2]at hAt
   have hiT:=hid (show (Tryz.prog.info? 24).map (·.size)=some ([Value.slice A c.t.ns.length k',.int .i64 c.t.root]).length from Zah)
   have lt2:=hid (block_lt Z2.out)
   have hbw2:=hid hbw
   clear lk9 ok9 hbw hm hmt eA B2 hk
   go_wp2
   refine wp_region_noPanic ?_
   refine wp_region_held_drew (S:=fun W=>Chg (fun b=>b=w.heap.size+1) w2 W) (by kernel_rfl) ?_ (fun hHeld=>?_)
   ·exact Chg.of_bel (Zao w2)
   refine' tkP 0 rfl ?_
   refine' tkM 1 rfl (fun _ h=>Zak t2.out (fun hb=>h.block _ hb (by omega))) hut hiT.out ?_
   refine' tkP 2 rfl ?_
   refine' tkF 3 (fun W hSw=>YkP hSw (by dsimp only;omega) l2) rfl ?_
   simp only[sQ]
   refine' tkW 4 5 ?_
   refine' tkP 6 rfl ?_
   refine' tkF 7 (fun W hSw=>YkP hSw (by dsimp only;have:=hbw2.out;omega) r2) rfl ?_
   simp only[sQ]
   refine rdH 8 rfl fun K hK=>?_
   go_simp
   refine(hAt.out _ (I2.out.ns.chg hHeld (fun b hb _=>by omega))).mono ?_
   rintro r v1 ⟨A1,c1,rfl,o1,hB⟩
   have z1:=hid ((hB.block _ (block_lt (show w2.drew.heap[w.heap.size+1]? =_ from Z2.out))).trans Z2.out)
   go_wp2_with fail
   refine hK.out _ _ (hHeld.trans (Chg.of_bel hB)) fun hHeld=>?_
   clear hK K
   try simp only[sQ]
   refine' tkW 9 10 ?_
   simp only[sQ]
   refine rdH 11 rfl fun K hK=>?_
   refine Zaj rfl 24 (.tmp 4) (.tmp 27) rfl (w.heap.size+1) _ rfl rfl 24 zTrC z1.out Zah rfl (Zat _ _ _ _) ?_
   intro w3 d3 hG
   refine hK.out _ _ (hHeld.trans ((Chg.of_grown hG).mono (fun b _ e=>by injection e))) fun hHeld=>?_
   clear hK K
   try simp only[sQ]
   refine' tkP 12 rfl ?_
   simp only[sQ]
   refine dnN ?_
   go_wp2
   refine Vy0 (YkK Tryz.results11 _ _ (w.heap.size+1) [.slice A1 c.t.ns.length c1,.int .i64 rt] rfl (Zae (l:=[.slice A1 c.t.ns.length c1,.int .i64 rt]) d3) hut rfl Zah) rfl ⟨A1,c1,by rw[← e1.out,←e2.out];rfl,e1.out▸?_,W2.out.trans (hHeld.below W2.out.size (fun b hb=>by omega))⟩
   exact OwnR.base (OwnQ.keptAtP o1 hG (by have:=lt2.out;simpa using this) (by have:=lt2.out;simpa using this)) (by have:=W2.out.size;simpa using this)
end Go.Proofs.YtnnclggeifnomaaGreatDoor
