import Derived.Test.YtnnclggeifnomaaGreatDoorTrB
set_option maxRecDepth 100000
set_option linter.all false
set_option maxHeartbeats 2000000
namespace Go.Proofs.YtnnclggeifnomaaGreatDoor
open Go.RowKit
theorem YaS{fn:Func}{p u:Tmp}(h:fn.results=#[.cell p 106,.tmp u])(tmps:Array Value)(w:World)(g:Nat)(cs:Array Value)(e1:tmps.getD p undef=.pointer (some ⟨g,0,none⟩))
  (hg:w.heap[g]? =some (.cells cs 106 (0,0))) (hs:cs.size=36):(results fn tmps).run Tryz.prog w=.ok (.tuple #[.agg cs,tmps.getD u undef]) w:=by
 have h2:=run_loadVar_mid (P:=Tryz.prog) w g 0 106 cs.toList _ (Zae hg) Tryz.underlying106 rfl (by rw[Array.length_toList,hs];exact Zbd)
 have e2:tmps[p]?.getD undef=.pointer (some ⟨g,0,none⟩):=by simpa using e1
 simp only[results,h]
 simp[Sem.run_bind,Result.andThen,e2,asAddr,Sem.run_pure,h2]
theorem Yf1(w:World)(A:Option Addr)(n c:Nat)(root:Int)(b:Dg)(t:TypeId):
  BoxT (((w.alloc (.cells #[.slice A n c,.int .i64 root] t)).alloc (.cells (b.1.map bv).toArray 37)).alloc (.cells zNdC 106)) w.heap.size A n c root∧
  (((w.alloc (.cells #[.slice A n c,.int .i64 root] t)).alloc (.cells (b.1.map bv).toArray 37)).alloc (.cells zNdC 106)).rangeAt (w.heap.size+1) 0 (b.1.map bv)∧
  (((w.alloc (.cells #[.slice A n c,.int .i64 root] t)).alloc (.cells (b.1.map bv).toArray 37)).alloc (.cells zNdC 106)).heap[w.heap.size+1+1]? =some (.cells zNdC 106)∧
  Below w.heap.size w (((w.alloc (.cells #[.slice A n c,.int .i64 root] t)).alloc (.cells (b.1.map bv).toArray 37)).alloc (.cells zNdC 106)):=by
 obtain⟨h1,h2,h3⟩:=ZcD w A n c root b t 37
 have h4:=Vx0 ((w.alloc (.cells #[.slice A n c,.int .i64 root] t)).alloc (.cells (b.1.map bv).toArray 37)) (.cells zNdC 106)
 simp only[Vx2]at h4
 exact⟨h1.bel (Zad _ _),Zab (Zad _ _) h2,h4,Zag h3 (Zad _ _)⟩
theorem YcW(F:Nat→Prop)(A:Option Addr)(c:Nat)(ns:List Nd)(root:Int)(k:Dg)(hc:ns.length≤1000000)(hm:mayT ⟨ns,root⟩=true)(W:World)(hW:Row F W A ns):∃A' c',Calls Tryz.prog 172 #[.agg #[.slice A ns.length c,.int .i64 root],.int .i64 (wayP ns k 256 root).1] W (fun e w'=>e=.returned (.agg (ndC (endN ⟨ns,root⟩ k) A' c').toArray)∧Below W.heap.size W w')∧Row F W A' (endN ⟨ns,root⟩ k).v:=by
 obtain⟨-,m1,m2,ho,m3⟩:=ZaX.1 hm
 dsimp only at m1 m2 ho m3
 obtain⟨⟨w1,w2,w3⟩,_⟩:=Ze2 (k:=k) ho 256 root z0 (Vx8 _) m1 m2 m3 Zfk
 have hendv:endN ⟨ns,root⟩ k=if (wayP ns k 256 root).1=0 then nd0 else ndAt ns (wayP ns k 256 root).1:=by unfold endN;rw[hm];rfl
 rw[hendv]
 by_cases hz:(wayP ns k 256 root).1=0
 ·rw[if_pos hz,hz]
  exact⟨none,0,Zn5 A ns.length c root W,Row.nil _ _ _⟩
 ·rw[if_neg hz]
  obtain⟨j,hj,hje,hx,_⟩:=Zc6 ho (by omega) w2
  rw[hx,hje]
  obtain⟨q,o,rfl,A',c',hR,_,_,hv3,_⟩:=Zb7 hW hj
  exact⟨A',c',Zg0 q o j ns.length c root ns[j] A' c' W hR hj (by omega),hv3⟩
theorem Zn4(F:Nat→Prop)(A:Option Addr)(c:Nat)(ns:List Nd)(root:Int)(k:Dg)(w:World)(hr:Row F w A ns)(hc:ns.length≤1000000)(hm:mayT ⟨ns,root⟩=true):
  Calls Tryz.prog 271 #[.agg #[.slice A ns.length c,.int .i64 root],.agg (k.1.map bv).toArray] w fun e w'=>∃A1 c1,e=.returned (.tuple #[.agg (ndC (endN ⟨ns,root⟩ k) A1 c1).toArray,.bool (hasE (endN ⟨ns,root⟩ k) k)])∧Rd w' A1 (endN ⟨ns,root⟩ k).v∧Below w.heap.size w w':=by
 obtain⟨hb0,hk0,hz0,W0⟩:=Yf1 w A ns.length c root k 122
 have hr0:=(hr.mono (G:=fun b=>b<w.heap.size) fun b _ h=>h).bel W0
 have hu:=Tryz.underlying37
 have hutr:=Tryz.underlying122
 have hun:=Tryz.underlying106
 have hiTr:=hid (show (Tryz.prog.info? 122).map (·.size)=some ([Value.slice A ns.length c,.int .i64 root]).length from ZbA)
 have hi:=hid (Zaz k)
 have hRd:=fun W hW=>Zn6 (fun b=>b<w.heap.size) A c ns root k W hW hc hm
 have hend:=fun W hW=>YcW (fun b=>b<w.heap.size) A c ns root k hc hm W hW
 generalize (wayP ns k 256 root).2=os at *
 generalize (wayP ns k 256 root).1=en at *
 generalize endN ⟨ns,root⟩ k=x at *
 have hiN:=fun A2 c2=>hid (show (Tryz.prog.info? 106).map (·.size)=some (ndC x A2 c2).length by rw[ZaG];exact Zbd)
 have hiS:=fun A2 c2=>hid (show (Tryz.prog.info? 106).map (·.size)=some (ndC x A2 c2).toArray.size by rw[Vx7,ZaG];exact Zbd)
 have hzs:=fun A2 c2=>hid (show zNdC.size=(ndC x A2 c2).toArray.size by rw[ZbY,Vx7,ZaG])
 have hzn:=fun A2 c2=>hid (show (ndC x A2 c2).toArray.size=(ndC x A2 c2).toArray.size from rfl)
 have hone:=fun A2 c2=>hid (ZcZ x A2 c2)
 have hik:=hid (Zaz x.k)
 have hlN:=fun A2 c2=>hid (ZaG x A2 c2)
 obtain⟨kb,hkb⟩:∃kb,decide (x.k=k)=kb:=⟨_,rfl⟩
 have hE:∀W,(Op.equalIn 10000 37 (.agg (x.k.1.map bv).toArray) (.agg (k.1.map bv).toArray)).run Tryz.prog W=.ok kb W:=fun W=>ZaL x.k k kb hkb W
 have hans:hasE x k=(x.leaf&&kb):=by rw[← hkb];rfl
 rw[hans]
 replace hz0:=hid hz0
 replace hRd:=hid hRd
 replace hend:=hid hend
 replace hE:=hid hE
 clear hr hm hkb hans
 generalize hdk:k.1.map bv=dk at *
 clear hdk
 go_enter Tryz.func271,Tryz.ntmps271
 go_wp2_with (first
  |(with_reducible refine Zac rfl 106 rfl zNdC Zbh ?_)
  |(with_reducible refine lDr hb0.all hiTr.out hutr ?_)
  |(with_reducible refine lDr hk0 hi.out hu ?_))
 generalize ((w.alloc (.cells #[.slice A ns.length c,.int .i64 root] 122)).alloc (.cells dk.toArray 37)).alloc (.cells zNdC 106)=w0 at *
 refine(hRd.out _ hr0).mono ?_
 rintro e w1 ⟨A5,c5,rfl,ho5,hb⟩
 have T1:=hb0.bel hb
 have k1:=hid (Zab hb hk0)
 have r1:=hid (hr0.bel hb)
 have z1:=hid ((hb.block _ (block_lt hz0.out)).trans hz0.out)
 have W1:=hid (W0.trans (hb.mono W0.size))
 clear hb0 hk0 hr0 hz0 hb ho5 hRd W0
 go_wp2_with ((with_reducible refine lDr T1.all hiTr.out hutr ?_))
 obtain⟨A',c',hNd,hrd⟩:=hend.out _ r1.out
 refine hNd.mono ?_
 rintro e w2 ⟨rfl,hb⟩
 have rd2:=hid (hrd.bel hb)
 have k2:=hid (Zab hb k1.out)
 have z2:=hid ((hb.block _ (block_lt z1.out)).trans z1.out)
 have W2:=hid (W1.out.trans (hb.mono W1.out.size))
 have hBN:=hid (fun (W:World) (g:Nat) (tt:TypeId) (h:W.heap[g]? =some (.cells (ndC x A' c').toArray tt (0,0)))=>BoxN.heap h)
 clear hNd hrd hb T1 k1 r1 z1 W1 hend
 go_wp2_with (((with_reducible refine stW 4 16 (w.heap.size+1+1) 106 zNdC ?_ ?_ ?_ ?_ ?_);exact z2.out;exact(hiS A' c').out;exact(hzs A' c').out;exact(hone A' c').out;intro w3 hg3 hb3 hs3))
 have W3:=hid (W2.out.grown hb3 W2.out.size (fun g e=>by injection e with e;omega))
 have k3:=hid (Zak k2.out (w':=w3) (fun hl=>hb3.block _ hl (fun e=>by injection e with e;omega)))
 have rd3:=hid (rd2.out.kept (w':=w3) (fun b hb hl=>hb3.block b hl (fun e=>by injection e with e;omega)) hb3.size)
 have g3:=hid hg3
 have lt3:=hid (block_lt hg3)
 have E1:=hE.out
 clear hb3 hs3 hg3 z2 k2 rd2 W2 hE
 cases hl:x.leaf with
 |false=>
  have hlf:=hid (fun (W:World) (h:W.heap[w.heap.size+1+1]? =some (.cells (ndC x A' c').toArray 106 (0,0)))=>by have e:=(hBN.out _ _ _ h).leaf;rw[hl]at e;exact e)
  have ha:=hid (show (x.leaf&&kb)=false by rw[hl];rfl)
  clear hl
  go_wp2
  refine wp_region_noPanic ?_
  refine wp_region_held_drew (S:=fun w'=>Below (w.heap.size+1+1) w3 w'∧w'.heap[w.heap.size+1+1]? =some (.cells (ndC x A' c').toArray 106 (0,0))) (by kernel_rfl) ?_ (fun hHeld=>?_)
  ·exact⟨(Zao w3).mono (Nat.le_of_lt lt3.out),g3.out⟩
  refine' tkM 0 rfl (fun _ h=>(hBN.out _ _ _ h.2).all) hun (hiN A' c').out ?_
  refine' tkP 1 rfl ?_
  refine' tkF 2 (fun W hSw=>(hlf.out _ hSw.2)) rfl ?_
  refine' tkP 3 rfl ?_
  simp only[sQ]
  refine' tkW 4 5 ?_
  refine' tkW 6 7 ?_
  simp only[sQ]
  refine' tkP 8 rfl ?_
  simp only[sQ]
  refine rdH 9 rfl fun K hK=>?_
  refine Zaj rfl 106 (.tmp 4) (.tmp 17) rfl (w.heap.size+1+1) _ rfl rfl 106 (ndC x A' c').toArray hHeld.2 (hiS A' c').out rfl (hone A' c').out ?_
  intro w4 d4 hG
  refine hK.out _ _ (⟨hHeld.1.grown hG (Vx1 (Nat.le_of_lt lt3.out) hHeld.1.size) (fun g e=>by injection e with e;omega),d4⟩) fun hHeld=>?_
  clear hK K
  try simp only[sQ]
  refine' tkP 10 rfl ?_
  simp only[sQ]
  refine dnN ?_
  go_wp2
  refine Vy0 (YaS Tryz.results271 _ _ (w.heap.size+1+1) _ rfl hHeld.2 (by rw[Vx7];exact(hlN A' c').out)) rfl ⟨A',c',(by rw[ha.out];rfl),(rd3.out.kept (fun b hb hl=>hHeld.1.block b (by omega)) hHeld.1.size).rd,W3.out.trans (hHeld.1.mono (by omega))⟩
 |true=>
  have hlf:=hid (fun (W:World) (h:W.heap[w.heap.size+1+1]? =some (.cells (ndC x A' c').toArray 106 (0,0)))=>by have e:=(hBN.out _ _ _ h).leaf;rw[hl]at e;exact e)
  have ha:=hid (show (x.leaf&&kb)=kb by rw[hl];rfl)
  clear hl
  go_wp2
  refine wp_region_noPanic ?_
  refine wp_region_held_drew (S:=fun w'=>Below (w.heap.size+1+1) w3 w'∧w'.heap[w.heap.size+1+1]? =some (.cells (ndC x A' c').toArray 106 (0,0))) (by kernel_rfl) ?_ (fun hHeld=>?_)
  ·exact⟨(Zao w3).mono (Nat.le_of_lt lt3.out),g3.out⟩
  refine' tkM 0 rfl (fun _ h=>(hBN.out _ _ _ h.2).all) hun (hiN A' c').out ?_
  refine' tkP 1 rfl ?_
  refine' tkF 2 (fun W hSw=>(hlf.out _ hSw.2)) rfl ?_
  refine' tkP 3 rfl ?_
  simp only[sQ]
  refine' tkP 4 rfl ?_
  refine' tkM 5 rfl (fun _ h=>(hBN.out _ _ _ h.2).key) hu hik.out ?_
  refine' tkM 6 rfl (fun _ h=>Zak k3.out (fun hl=>h.1.block _ (by omega))) hu hi.out ?_
  refine' tkP 7 rfl ?_
  simp only[sQ]
  refine' tkP 8 rfl ?_
  simp only[sQ]
  refine rdH 9 rfl fun K hK=>?_
  refine Zaj rfl 106 (.tmp 4) (.tmp 17) rfl (w.heap.size+1+1) _ rfl rfl 106 (ndC x A' c').toArray hHeld.2 (hiS A' c').out rfl (hone A' c').out ?_
  intro w4 d4 hG
  refine hK.out _ _ (⟨hHeld.1.grown hG (Vx1 (Nat.le_of_lt lt3.out) hHeld.1.size) (fun g e=>by injection e with e;omega),d4⟩) fun hHeld=>?_
  clear hK K
  try simp only[sQ]
  refine' tkP 10 rfl ?_
  simp only[sQ]
  refine dnN ?_
  go_wp2
  refine Vy0 (YaS Tryz.results271 _ _ (w.heap.size+1+1) _ rfl hHeld.2 (by rw[Vx7];exact(hlN A' c').out)) rfl ⟨A',c',(by rw[ha.out];rfl),(rd3.out.kept (fun b hb hl=>hHeld.1.block b (by omega)) hHeld.1.size).rd,W3.out.trans (hHeld.1.mono (by omega))⟩
def getTB(t:Tr)(k:Dg):Bool:=mayT t&&hasP (allT t) k
def getTL(t:Tr)(k:Dg):List UInt8:=if getTB t k=true then getV (allT t) k else []
theorem ZfQ(F:Nat→Prop)(A:Option Addr)(c:Nat)(ns:List Nd)(root:Int)(k:Dg)(w:World)(hr:Row F w A ns)(hc:ns.length≤1000000):
  Calls Tryz.prog 265 #[.agg #[.slice A ns.length c,.int .i64 root],.agg (k.1.map bv).toArray] w fun e w'=>∃A1 c1,e=.returned (.tuple #[.slice A1 (getTL ⟨ns,root⟩ k).length c1,.bool (getTB ⟨ns,root⟩ k)])∧Own 5 w' w.heap.size A1 c1 (getTL ⟨ns,root⟩ k)∧Below w.heap.size w w':=by
 obtain⟨hb0,hk0,W0⟩:=ZcD w A ns.length c root k 24 37
 have hr0:=hr.bel W0
 have hu:=Tryz.underlying37
 have hut:=Tryz.underlying24
 have hun:=Tryz.underlying106
 have hiT:=hid (show (Tryz.prog.info? 24).map (·.size)=some ([Value.slice A ns.length c,.int .i64 root]).length from Zah)
 have hi:=hid (Zaz k)
 have hbt:=hid (ZfI A ns.length c root)
 obtain⟨m,hm⟩:∃m,mayT ⟨ns,root⟩=m:=⟨_,rfl⟩
 have hC:=hid (fun W hW=>ZdG F A c ns root m W hW (by omega) hm)
 cases m with
 |false=>
  rw[show getTL ⟨ns,root⟩ k=[] by unfold getTL getTB;rw[hm];rfl,show getTB ⟨ns,root⟩ k=false by unfold getTB;rw[hm];rfl]
  generalize k.1.map bv=dk at *
  go_enter Tryz.func265,Tryz.ntmps265
  go_wp2_with ((with_reducible refine lDr hb0.all hiT.out hut ?_))
  refine(hC.out _ hr0).mono ?_
  rintro e w2 ⟨rfl,hb⟩
  go_wp2
  go_ret2
  exact⟨none,0,rfl,Own.nil _ _,W0.trans (hb.mono W0.size)⟩
 |true=>
  have hF:=hid (fun W hW=>Zn4 F A c ns root k W hW hc hm)
  obtain⟨f1,f2⟩:=ZmX k hm
  have f3:=Zf4 (t:=⟨ns,root⟩) k
  have g1:getTB ⟨ns,root⟩ k=hasE (endN ⟨ns,root⟩ k) k:=by unfold getTB;rw[hm,f1];rfl
  have g2:getTL ⟨ns,root⟩ k=if hasE (endN ⟨ns,root⟩ k) k=true then (endN ⟨ns,root⟩ k).v else []:=by
   unfold getTL
   rw[g1,f1]
   by_cases h:hasP (allT ⟨ns,root⟩) k=true
   ·rw[if_pos h,if_pos h,f2 h]
   ·rw[if_neg h,if_neg h]
  rw[g1,g2]
  clear f1 f2 g1 g2 hm
  generalize endN ⟨ns,root⟩ k=x at *
  have hiS:=fun A2 c2=>hid (show (Tryz.prog.info? 106).map (·.size)=some (ndC x A2 c2).toArray.size by rw[Vx7,ZaG];exact Zbd)
  have hzs:=fun A2 c2=>hid (show zNdC.size=(ndC x A2 c2).toArray.size by rw[ZbY,Vx7,ZaG])
  have hone:=fun A2 c2=>hid (ZcZ x A2 c2)
  generalize hasE x k=hx at *
  replace hF:=hid hF.out
  generalize k.1.map bv=dk at *
  go_enter Tryz.func265,Tryz.ntmps265
  go_wp2_with ((with_reducible refine lDr hb0.all hiT.out hut ?_))
  refine(hC.out _ hr0).mono ?_
  rintro e w2 ⟨rfl,hb⟩
  have T2:=hb0.bel hb
  have k2:=hid (Zab hb hk0)
  have r2:=hid (hr0.bel hb)
  have W2:=hid (W0.trans (hb.mono W0.size))
  clear hb0 hk0 hr0 hb hC W0
  go_wp2_with (first
   |(with_reducible refine lDr T2.all hiT.out hut ?_)
   |((with_reducible refine Zaf rfl 122 _ rfl #[Value.slice A ns.length c,.int .i64 root] [(0,.agg #[.slice A ns.length c,.int .i64 root])] ?_ ?_ ?_);exact hbt.out;rfl)
   |(with_reducible refine lDr k2.out hi.out hu ?_))
  refine(hF.out _ r2.out).mono ?_
  rintro e w3 ⟨A1,c1,rfl,hrd,hb⟩
  have W3:=hid (W2.out.trans (hb.mono W2.out.size))
  have e3:=hid (Vx0 w3 (.cells zNdC 106))
  have rd3:=hid hrd
  have hBN:=hid (fun (W:World) (g:Nat) (tt:TypeId) (h:W.heap[g]? =some (.cells (ndC x A1 c1).toArray tt (0,0)))=>BoxN.heap h)
  have hlow:=hid W3.out.size
  clear hb hrd T2 k2 r2 hF W2
  cases hx with
  |false=>
   go_wp2_with (first
    |(with_reducible refine Zac rfl 106 rfl zNdC Zbh ?_)
    |((with_reducible refine stW 6 16 _ 106 zNdC ?_ ?_ ?_ ?_ ?_);exact e3.out;exact(hiS A1 c1).out;exact(hzs A1 c1).out;exact(hone A1 c1).out;intro w4 hg4 hb4 hs4;have X4:=hid (Zan rfl hb4);clear hg4 hb4 hs4))
   go_ret2
   exact⟨none,0,rfl,Own.nil _ _,W3.out.trans (X4.out.mono W3.out.size)⟩
  |true=>
   go_wp2_with (first
    |(with_reducible refine Zac rfl 106 rfl zNdC Zbh ?_)
    |((with_reducible refine stW 6 16 _ 106 zNdC ?_ ?_ ?_ ?_ ?_);exact e3.out;exact(hiS A1 c1).out;exact(hzs A1 c1).out;exact(hone A1 c1).out;intro w4 hg4 hb4 hs4;have X4:=hid (Zan rfl hb4);have y4:=(hBN.out _ _ _ hg4).val;clear hg4 hb4 hs4))
   refine(Zbs A1 x.v.length c1 x.v _ (rd3.out.bel X4.out) rfl (by omega)).mono ?_
   rintro e w5 ⟨A5,c5,rfl,ho5,hb5⟩
   have W5:=hid ((W3.out.trans (X4.out.mono W3.out.size)).trans (hb5.mono (Vx1 W3.out.size X4.out.size)))
   have o5:=hid (ho5.base (Vx1 W3.out.size X4.out.size))
   clear ho5 hb5 y4 X4
   go_wp2
   go_ret2
   exact⟨A5,c5,rfl,o5.out,W5.out⟩
end Go.Proofs.YtnnclggeifnomaaGreatDoor
