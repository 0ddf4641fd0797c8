import Derived.Test.YtnnclggeifnomaaGreatDoorTrI
set_option maxRecDepth 100000
set_option linter.all false
set_option maxHeartbeats 4000000
namespace Go.Proofs.YtnnclggeifnomaaGreatDoor
open Go.RowKit
def TrieAt(w:World)(g B0:Nat)(F P:Nat→Prop)(ns:List Nd)(root:Int):Prop:=
 ∃A c,w.heap[g]? =some (.cells #[.slice A ns.length c,.int .i64 root] 122 (0,0))∧RowO 106 F w B0 A c ns∧(∀ b,F b→B0≤b∧Soft w b∧b≠g)∧(∀ a,A=some a→a.block≠g)∧B0≤g∧
  ∀b,P b→b<w.heap.size∧b≠g∧∀a,A=some a→b≠a.block
def Stay(P:Nat→Prop)(w w':World):Prop:=∀b,P b→w'.heap[b]? =w.heap[b]?
section
variable{w w' w'':World}{g B0:Nat}{F P Q:Nat→Prop}{ns:List Nd}{root:Int}
theorem Stay.refl(P:Nat→Prop)(w:World):Stay P w w:=fun _ _=>rfl
theorem Stay.trans(h:Stay P w w')(k:Stay P w' w''):Stay P w w'':=fun b hb=>(k b hb).trans (h b hb)
theorem Stay.mono(h:Stay P w w')(k:∀b,Q b→P b):Stay Q w w':=fun b hb=>h b (k b hb)
theorem TrieAt.stay(h:TrieAt w g B0 F P ns root)(hb:Below w.heap.size w w'):Stay P w w':=fun b hp=>by
 obtain⟨A,c,_,_,_,_,_,h6⟩:=h
 exact hb.block b (h6 b hp).1
theorem TrieAt.kept(h:TrieAt w g B0 F P ns root)(hs:w.heap.size≤w'.heap.size)(hk:∀b,b<w.heap.size→(b=g∨F b∨¬P b)→w'.heap[b]? =w.heap[b]?):TrieAt w' g B0 F P ns root:=by
 obtain⟨A,c,h1,h2,h3,h4,h5,h6⟩:=h
 have hA:∀a,A=some a→¬P a.block:=fun a ha hp=>(h6 _ hp).2.2 a ha rfl
 exact⟨A,c,(hk g (block_lt h1) (.inl rfl)).trans h1,h2.kept (fun a ha hl=>hk _ hl (.inr (.inr (hA a ha)))) (fun b hb hl=>hk b hl (.inr (.inl hb))),
  fun b hb=>⟨(h3 b hb).1,(h3 b hb).2.1.kept (hk b (h3 b hb).2.1.lt (.inr (.inl hb))),(h3 b hb).2.2⟩,h4,h5,fun b hb=>⟨Vx4 (h6 b hb).1 hs,(h6 b hb).2⟩⟩
theorem TrieAt.bel(h:TrieAt w g B0 F P ns root)(hb:Below w.heap.size w w'):TrieAt w' g B0 F P ns root:=h.kept hb.size fun b hl _=>hb.block b hl
theorem TrieAt.more(h:TrieAt w g B0 F P ns root)(hb:Below w.heap.size w w')(hQ:∀b,Q b→w.heap.size≤b∧b<w'.heap.size):TrieAt w' g B0 F (fun b=>P b∨Q b) ns root:=by
 have h':=h.bel hb
 obtain⟨A,c,h1,h2,h3,h4,h5,h6⟩:=h'
 obtain⟨A1,c1,k1,k2,k3,k4,k5,k6⟩:=h
 have e:=(hb.block g (block_lt k1)).trans k1
 rw[h1]at e
 have e2:A=A1:=by
  have:=Option.some.inj e
  injection this with e1 _ _
  have e3:=congrArg (fun x:Array Value=>x[0]?) e1
  simp only[List.getElem?_toArray,List.getElem?_cons_zero,Option.some.injEq]at e3
  injection e3
 subst e2
 refine⟨A,c,h1,h2,h3,h4,h5,fun b hb=>?_⟩
 rcases hb with hb|hb
 ·exact h6 b hb
 ·have hq:=hQ b hb
  refine⟨hq.2,fun e=>?_,fun a ha e=>?_⟩
  ·have:=block_lt k1;omega
  ·have:=(k2.blk a ha).2;omega
theorem TrieAt.less(h:TrieAt w g B0 F P ns root)(hQ:∀b,Q b→P b):TrieAt w g B0 F Q ns root:=by
 obtain⟨A,c,h1,h2,h3,h4,h5,h6⟩:=h
 exact⟨A,c,h1,h2,h3,h4,h5,fun b hb=>h6 b (hQ b hb)⟩
theorem TrieAt.at_{b0:Nat}(h:TrieAt w g B0 F P ns root)(hp:P b0)(hf:¬F b0)(hs:w.heap.size≤w'.heap.size)(hk:∀b,b<w.heap.size→b≠b0→w'.heap[b]? =w.heap[b]?):TrieAt w' g B0 F P ns root:=by
 refine h.kept hs fun b hl hc=>hk b hl fun e=>?_
 subst e
 rcases hc with rfl|hc|hc
 ·obtain⟨A,c,h1,h2,h3,h4,h5,h6⟩:=h
  exact(h6 _ hp).2.1 rfl
 ·exact hf hc
 ·exact hc hp
theorem TrieAt.cap(h:TrieAt w g B0 F P ns root):∃A c,w.rangeAt g 0 [.slice A ns.length c,.int .i64 root]∧Row (fun b=>b<w.heap.size) w A ns:=by
 obtain⟨A,c,h1,h2,_⟩:=h
 exact⟨A,c,Zae (l:=[Value.slice A ns.length c,.int .i64 root]) h1,h2.row.mono fun b _ hl=>hl⟩
theorem TrieAt.lt(h:TrieAt w g B0 F P ns root):g<w.heap.size∧B0≤g:=by
 obtain⟨A,c,h1,_,_,_,h5,_⟩:=h
 exact⟨block_lt h1,h5⟩
end
section
variable{α:Type}[Enc α]{Pg:Program}{S E:TypeId}{z:Value}{bytes:Nat}
theorem Zxt(hS:Slot Pg α S E z bytes){w:World}{ops:Array Oper}{o:Oper}{a:Act}{K:Act→World→Prop}{Q:Exit→Act→World→Prop}{X:Prop}(hg:o.guard=none)(s x:Operand)
  (hop:o.op=.call { callee:=.builtin .append,args:=#[s,x],argTypes:=#[S,S] })
  (F:Nat→Prop) (B:Nat) (A A2:Option Addr) (n m c c2:Nat) (xs ys:List α) (hs:a.eval s=.slice A n c) (hx:a.eval x=.slice A2 m c2) (hn:n=xs.length) (hm:m=ys.length)
  (ho:RowO E F w B A c xs) (hr:Src F w A2 ys) (hF:∀b,F b→b<w.heap.size) (hlen:(xs.length+ys.length) * (bytes+1)≤140737488355328) (hB:B≤w.heap.size)
  (hK:∀A' c' w',RowO E F w' B A' c' (xs++ys)→Below B w w'→w.grownBy w' (A.map (·.block))→(A'=A∨A'=some ⟨w.heap.size,0,none⟩)→K (a.put o.dst (.slice A' (xs++ys).length c')) w'):
  if Region.wanted o (yielded ops a.tmps)=true then Oper.wp Pg o a w K Q else X:=by
 have hw:Region.wanted o (yielded ops a.tmps)=true:=by simp[Region.wanted,hg]
 rw[if_pos hw]
 subst hn hm
 obtain⟨A',c',w',hrun,h1,h2,h3,h4⟩:=ZiE hS o.type ho c2 hr hF hlen hB
 unfold Oper.wp execOp
 simp only[hop,resolve,invoke,builtin,Sem.run_bind,Sem.run_pure,Result.andThen_ok,List.map_toArray,List.map_cons,List.map_nil,hs,hx,hrun]
 exact hK A' c' w' h1 h2 h3 h4
end
theorem Zxw{w wa w1:World}{g B0 c c1:Nat}{F P:Nat→Prop}{ns ns1:List Nd}{root:Int}{A A1:Option Addr}{t:TypeId}{o:Obj}
  (hP:∀b,P b→b<w.heap.size∧b≠g∧∀a,A=some a→b≠a.block) (hA:∀a,A=some a→a.block≠g) (hF:∀b,F b→B0≤b∧Soft w b∧b≠g) (hB:B0≤g) (hBs:B0≤w.heap.size)
  (h1:w.heap[g]? =some (.cells #[.slice A ns.length c,.int .i64 root] 122 (0,0))) (hX:Below w.heap.size w wa) (hr:RowO 106 F w1 B0 A1 c1 ns1) (hg:wa.grownBy w1 (A.map (·.block))) (hb:Below B0 wa w1) (ho:A1=A∨A1=some ⟨wa.heap.size,0,none⟩) (hFA:∀b,F b→∀a,A=some a→b≠a.block):
  w1.heap[g]? =some (.cells #[.slice A ns.length c,.int .i64 root] 122 (0,0))∧
  ∀w2,w2=w1.setCell ⟨g,0,none⟩ (.slice A1 ns1.length c1)→TrieAt w2 g B0 F P ns1 root∧Stay P w w2∧Below B0 w w2:=by
 have hne:∀b,b<w.heap.size→(∀ a,A=some a→b≠a.block)→w1.heap[b]? =w.heap[b]? :=fun b hl hn=>(hg.block b (Vx4 hl hX.size) (fun e=>by
  rcases A with _|a
  ·cases e
  ·simp only[Option.map_some,Option.some.injEq]at e
   exact hn a rfl e)).trans (hX.block b hl)
 have h2:=(hne g (block_lt h1) (fun a ha e=>hA a ha e.symm)).trans h1
 refine⟨h2,?_⟩
 rintro w2 rfl
 have hA1:∀a,A1=some a→a.block≠g:=fun a ha=>by
  rcases ho with rfl|rfl
  ·exact hA a ha
  ·injection ha with ha
   subst ha
   have:=block_lt h1
   have:=hX.size
   intro e
   dsimp only at e
   omega
 have hs:∀b,b≠g→(w1.setCell ⟨g,0,none⟩ (.slice A1 ns1.length c1)).heap[b]? =w1.heap[b]? :=fun b hn=>Vy3 _ _ _ b hn
 have hsz:w1.heap.size≤(w1.setCell ⟨g,0,none⟩ (.slice A1 ns1.length c1)).heap.size:=by simp[World.setCell]
 have hf:=fun b hb=>(hne b (hF b hb).2.1.lt (hFA b hb))
 have hw1:w.heap.size≤w1.heap.size:=Vx1 hX.size hg.size
 have e2:=ZaD h2 0 (.slice A1 ns1.length c1)
 refine⟨⟨A1,c1,e2,hr.kept (fun a ha hl=>hs _ (hA1 a ha)) (fun b hb hl=>hs b (hF b hb).2.2),fun b hb=>⟨(hF b hb).1,((hF b hb).2.1.kept (hf b hb)).kept (hs b (hF b hb).2.2),(hF b hb).2.2⟩,hA1,hB,fun b hp=>⟨Vx4 (Vx4 (hP b hp).1 hw1) hsz,(hP b hp).2.1,fun a ha e=>?_⟩⟩,fun b hp=>(hs b (hP b hp).2.1).trans (hne b (hP b hp).1 (hP b hp).2.2),?_⟩
 ·rcases ho with rfl|rfl
  ·exact(hP b hp).2.2 a ha e
  ·injection ha with ha
   subst ha
   have:=(hP b hp).1
   have:=hX.size
   dsimp only at e
   omega
 ·exact((hX.mono hBs).trans hb).setCell (p:=⟨g,0,none⟩) hB _
theorem ZlZ(w:World)(o:Obj):Below w.heap.size w (w.drew.alloc o):=(Zao w).trans (Zad w.drew o)
theorem ZlY(w:World)(o:Obj):Below w.heap.size w (w.alloc o).drew:=Zag (Zad w o) (Zao _)
theorem Yjf{α:Type}[Enc α]{F:Nat→Prop}{w:World}{x:α}{cs:List Value}{E:TypeId}(h:Enc.rep F w x cs):Src F (w.drew.alloc (.cells cs.toArray E)) (some ⟨w.heap.size,0,none⟩) [x]:=ZaE (w:=w.drew) (Enc.kept h fun _ _ _=>rfl)
theorem Yje{α:Type}[Enc α]{F:Nat→Prop}{w:World}{x:α}{cs:List Value}{E:TypeId}(h:Enc.rep F w x cs):Src F (w.alloc (.cells cs.toArray E)).drew (some ⟨w.heap.size,0,none⟩) [x]:=(ZaE h).bel (Zao _)
theorem Zul(w:World)(g B0:Nat)(F P:Nat→Prop)(ns:List Nd)(root:Int)(x:Nd)(AV:Option Addr)(cV:Nat)(hT:TrieAt w g B0 F P ns root)(hx:Enc.rep F w x (ndC x AV cV))(hB:B0≤w.heap.size)(hl:ns.length≤1000000):
  Calls Tryz.prog 180 #[.pointer (some ⟨g,0,none⟩),.agg (ndC x AV cV).toArray] w fun e w'=>e=.returned (.int .i64 ((ns.length:Int)+1))∧TrieAt w' g B0 F P (ns++[x]) root∧Stay P w w'∧Below B0 w w':=by
 obtain⟨A,c,h1,h2,h3,h4,h5,h6⟩:=hT
 have hun:=Tryz.underlying106
 have hiN:=hid (show (Tryz.prog.info? 106).map (·.size)=some (ndC x AV cV).length by rw[ZaG];exact Zbd)
 have hlN:=hid (show (ndC x AV cV).length=Enc.size Nd from ZaG x AV cV)
 have X0:=Zad w (.cells (ndC x AV cV).toArray 106)
 have q0:=hid (Zae (Vx0 w (.cells (ndC x AV cV).toArray 106)))
 have y0:=(X0.block g (block_lt h1)).trans h1
 have o0:=hid (h2.bel X0)
 have x0:=hid (Enc.kept hx (fun b hb hl=>X0.block b hl))
 have lt0:=hid (block_lt h1)
 have hF0:=hid (fun b hb=>(h3 b hb).2.1.lt)
 have hFA:=hid (fun b hb a ha (e:b=a.block)=>h2.apart a ha (e▸hb))
 have hsz:(w.alloc (.cells (ndC x AV cV).toArray 106)).heap.size=w.heap.size+1:=Vx2 _ _
 have hblk:=hid h2.blk
 replace h1:=hid h1
 replace h2:=hid h2
 replace h3:=hid h3
 replace h4:=hid h4
 replace h6:=hid h6
 replace X0:=hid X0
 replace hsz:=hid hsz
 generalize hcs:ndC x AV cV=cs at *
 clear hcs hx
 go_enter Tryz.func180,Tryz.ntmps180
 go_wp2
 generalize w.alloc (.cells cs.toArray 106)=w0 at *
 have c0:=Zaq y0 0
 simp only[List.getElem?_toArray,List.getElem?_cons_zero]at c0
 have ltg:=hid (block_lt y0)
 have hL:=hid (show (ns++[x]).length=ns.length+1 by simp)
 have hsB:=hid (Vx1 hB X0.out.size)
 have fin:=hid (fun (wa w1:World) (A1:Option Addr) (c1:Nat) (hX:Below w0.heap.size w0 wa) (hr:RowO 106 F w1 B0 A1 c1 (ns++[x])) (hg:wa.grownBy w1 (A.map (·.block))) (hb:Below B0 wa w1) (ho:A1=A∨A1=some ⟨wa.heap.size,0,none⟩)=>Zxw (t:=0) (o:=.cells #[] 0) h6.out h4.out h3.out h5 hB h1.out (X0.out.trans (hX.mono X0.out.size)) hr hg hb ho hFA.out)
 go_wp2
 focus
  refine wp_region_noPanic ?_
  refine wp_region_held_drew (S:=fun w'=>w'.rangeAt w.heap.size 0 cs) (by kernel_rfl) ?_ (fun hHeld=>?_)
  ·exact q0.out
  refine' tkW 0 1 ?_
  refine' tkW 2 3 ?_
  simp only[sQ]
  refine' tkP 4 rfl ?_
  refine' tkM 6 rfl (fun _ h=>h) hun hiN.out ?_
  simp only[sQ]
  refine Ynx 5 7 rfl rfl (fun K hK=>?_) (fun K hK=>?_)
  focus
   go_simp
   refine hK.out _ _ (hHeld) fun hHeld=>?_
   clear hK K
   try simp only[sQ]
   refine rdH 7 rfl fun K hK=>?_
   refine ZbE slotNd (by decide) rfl (.tmp 11) rfl cs rfl hlN.out ?_
   replace c0:=((Zad w0 (.cells cs.toArray 106)).cell (p:=⟨g,0,none⟩) ltg.out).trans c0
   refine hK.out _ _ (Zab (Zad _ _) hHeld) fun hHeld=>?_
   clear hK K
   try simp only[sQ]
  rotate_left
  focus
   refine ZbE slotNd (by decide) rfl (.tmp 11) rfl cs rfl hlN.out ?_
   replace c0:=((Zad w0 (.cells cs.toArray 106)).cell (p:=⟨g,0,none⟩) ltg.out).trans c0
   refine hK.out _ _ (Zab (Zad _ _) hHeld) fun hHeld=>?_
   clear hK K
   try simp only[sQ]
   refine rdH 5 rfl fun K hK=>?_
   go_simp
   refine hK.out _ _ (hHeld) fun hHeld=>?_
   clear hK K
   try simp only[sQ]
  all_goals
   refine rdH 8 rfl fun K hK=>?_
   refine Zxt slotNd rfl (.tmp 10) (.tmp 12) rfl F B0 A _ ns.length 1 c 1 ns [x] rfl rfl rfl rfl (o0.out.bel (by first|exact ZlZ _ _|exact ZlY _ _)) (by first|exact Yjf x0.out|exact Yje x0.out) (fun b hb=>Vx4 (hF0.out b hb) (Vx1 X0.out.size (by first|exact(ZlZ _ _).size|exact(ZlY _ _).size))) (by simp only[List.length_singleton];omega) (Vx1 hsB.out (by first|exact(ZlZ _ _).size|exact(ZlY _ _).size)) ?_
   intro A1 c1 w1 hr hb hg ho
   obtain⟨h21,h22⟩:=fin.out _ _ _ _ (by first|exact ZlZ _ _|exact ZlY _ _) hr hg hb ho
   rw[hL.out]at h22
   have f1:=Zap h21 0
   have d1:=Zaq h21 0
   simp only[List.getElem?_toArray,List.getElem?_cons_zero]at d1
   replace h22:=hid h22
   clear hr hb ho h21
   refine hK.out _ _ (Zak hHeld (fun hl=>hg.block _ hl (ZrJ hblk.out))) fun hHeld=>?_
   clear hK K
   try simp only[sQ]
   refine' tkW 9 10 ?_
   refine' tkP 11 rfl ?_
   simp only[sQ]
   refine rdH 12 rfl fun K hK=>?_
   go_simp
   refine hK.out _ _ (Zak hHeld (fun hl=>Vy3 _ _ _ _ (Nat.ne_of_gt lt0.out))) fun hHeld=>?_
   clear hK K
   try simp only[sQ]
   refine dnN ?_
   obtain⟨T2,S2,B2⟩:=h22.out _ rfl
   clear h22
   go_wp2
   go_ret
   exact⟨rfl,T2,S2,B2⟩
theorem Zwp(l r:Int):Tryz.prog.built 106 [(3,.int .i64 l),(4,.int .i64 r)]=some (ndC (forkN l r) none 0).toArray:=by kernel_rfl
theorem ZcV(w:World)(g B0:Nat)(F P:Nat→Prop)(ns:List Nd)(root l r:Int)(hT:TrieAt w g B0 F P ns root)(hB:B0≤w.heap.size)(hl:ns.length≤1000000)(il:I64 l)(ir:I64 r):
  Calls Tryz.prog 182 #[.pointer (some ⟨g,0,none⟩),.agg #[.int .i64 l,.int .i64 r]] w fun e w'=>e=.returned (.int .i64 ((ns.length:Int)+1))∧TrieAt w' g B0 F P (ns++[forkN l r]) root∧Stay P w w'∧Below B0 w w':=by
 have X0:=Zad w (.cells #[.int .i64 l,.int .i64 r] 222)
 have q0:=Zae (l:=[Value.int .i64 l,.int .i64 r]) (Vx0 w (.cells #[.int .i64 l,.int .i64 r] 222))
 have c0:=q0 0 _ rfl
 have c1:=q0 1 _ rfl
 rw[Nat.zero_add]at c0 c1
 have S0:=hid (hT.stay X0)
 have hA:=hid (Zul _ g B0 F P ns root (forkN l r) none 0 (hT.bel X0) (Zf7 _ _ _ (Vx8 _) (Nat.zero_le _) (Row.nil _ _ _) il ir) (Vx1 hB X0.size) hl)
 have hbu:=hid (Zwp l r)
 have W0:=hid (X0.mono hB)
 generalize ndC (forkN l r) none 0=cs at *
 clear hT q0 X0
 go_enter Tryz.func182,Tryz.ntmps182
 go_wp2_with (((with_reducible refine Zaf rfl 106 _ rfl cs.toArray [(3,.int .i64 l),(4,.int .i64 r)] ?_ ?_ ?_);exact hbu.out;rfl))
 refine hA.out.mono ?_
 rintro e w2 ⟨rfl,T2,S2,B2⟩
 go_wp2
 go_ret
 exact⟨rfl,T2,S0.out.trans S2,W0.out.trans B2⟩
def PG(ns:List Nd)(k:Dg)(e:Nat)(n:Int):Prop:=0≤n∧n≤ns.length∧∃b,Zr (256-e) b∧0≤rgt ns e n b∧∀i,i<256-e→kb k.1 i=kb b.1 i
def EndC(ns:List Nd)(k:Dg)(n:Int):Prop:=n=0∨((ndAt ns n).leaf=true∧(ndAt ns n).k=k)
theorem YiU{ns:List Nd}{k:Dg}{n:Int}(h:PG ns k 0 n):EndC ns k n:=by
 obtain⟨h0,hn,b,hz,hr,hk⟩:=h
 by_cases hz:n=0
 ·exact .inl hz
 ·cases hl:(ndAt ns n).leaf with
  |false=>rw[ZcN hz hl]at hr;omega
  |true=>
   rw[Zck hz hl]at hr
   refine .inr ⟨hl,Ye4 (ZkS (ndAt ns n).k.2 k.2 fun i hi=>?_)⟩
   have:256≤shared (ndAt ns n).k.1 b.1:=by
    split at hr
    ·omega
    ·omega
   rw[Zb5 (a:=(ndAt ns n).k.1) (b:=b.1) (by omega),hk i (by omega)]
theorem Yhc{ns:List Nd}{k:Dg}{e:Nat}{n:Int}(ho:Ones ns)(he:e+1≤256)(h:PG ns k (e+1) n)(hc:¬EndC ns k n):
  (0≤lftD ns (255-e) n∧lftD ns (255-e) n≤ns.length)∧(0≤rgtD ns (255-e) n∧rgtD ns (255-e) n≤ns.length)∧(kb k.1 (255-e)=0→PG ns k e (lftD ns (255-e) n))∧(kb k.1 (255-e)=1→PG ns k e (rgtD ns (255-e) n)):=by
 obtain⟨h0,hn,b,hz,hr,hk⟩:=h
 have hne:n≠0:=fun h=>hc (.inl h)
 have hd:255-e<256:=by omega
 have hz':Zr (255-e) b:=by rw[show 255-e=256-(e+1) by omega];exact hz
 obtain⟨a1,a2,a3,a4,_,_⟩:=Zos ho (by omega) hn he hz' hr
 refine⟨a1,a2,fun hb=>⟨a1.1,a1.2,b,?_,a3,fun i hi=>?_⟩,fun hb=>⟨a2.1,a2.2,turnD b (255-e),?_,a4,fun i hi=>?_⟩⟩
 ·rw[show 256-e=255-e+1 by omega];exact Zeb hz'
 ·rcases Nat.lt_or_ge i (255-e) with h|h
  ·exact hk i (by omega)
  ·obtain rfl:i=255-e:=by omega
   rw[hb,hz' _ (Vx8 _) hd]
 ·rw[show 256-e=255-e+1 by omega];exact Zec hz' hd
 ·rcases Nat.lt_or_ge i (255-e) with h|h
  ·rw[Zgy hd h];exact hk i (by omega)
  ·obtain rfl:i=255-e:=by omega
   rw[hb,ZcQ hz' hd]
theorem YiV{ns:List Nd}{k:Dg}{v:List UInt8}{e:Nat}{n:Int}(ho:Ones ns)(hv:valB v=true)(he:e≤256)(h:PG ns k e n):(putN ns k v e n).1.length≤ns.length+(e+1)∧0≤(putN ns k v e n).2∧(putN ns k v e n).2≤(putN ns k v e n).1.length:=by
 obtain⟨h0,hn,b,hz,hr,hk⟩:=h
 obtain⟨⟨ms,a1,a2⟩,_,a3,a4,_⟩:=Zvb ho hv e n b he h0 hn hz hr hk
 exact⟨by rw[a1,Vx3];omega,a3,a4⟩
def PutPost(g B0:Nat)(F P:Nat→Prop)(root:Int)(w:World)(r:List Nd×Int)(e:Ending)(w':World):Prop:=e=.returned (.int .i64 r.2)∧TrieAt w' g B0 F P r.1 root∧Stay P w w'∧Below B0 w w'
theorem Zvu(a b c:Int):(#[Value.int .i64 a,.int .i64 b]:Array Value).setIfInBounds 0 (.int .i64 c)=#[.int .i64 c,.int .i64 b]:=rfl
theorem Zvv(a b c:Int):(#[Value.int .i64 a,.int .i64 b]:Array Value).setIfInBounds 1 (.int .i64 c)=#[.int .i64 a,.int .i64 c]:=rfl
theorem Zhs{w w':World}{P:Nat→Prop}(hP:∀b,P b→b<w.heap.size)(h:Below w.heap.size w w'):Stay P w w':=fun b hb=>h.block b (hP b hb)
theorem Zoa(g B0:Nat)(F:Nat→Prop)(k:Dg)(v:List UInt8)(AV:Option Addr)(cV:Nat)(ns:List Nd)(root:Int)(ho:Ones ns)(hv:valB v=true)(hlen:ns.length+600≤1000000)(e d:Nat)(n:Int)(hd:e+d=256)(hG:PG ns k e n)(w:World)(P:Nat→Prop)
  (hT:TrieAt w g B0 F P ns root) (hB:B0≤w.heap.size) (hx:Enc.rep F w (leafN k v) (ndC (leafN k v) AV cV)) (hFP:∀b,F b→P b)
  (ih:∀f,e=f+1→∀(n:Int) (w:World) (P:Nat→Prop),PG ns k f n→TrieAt w g B0 F P ns root→B0≤w.heap.size→Enc.rep F w (leafN k v) (ndC (leafN k v) AV cV)→(∀ b,F b→P b)→
   Calls Tryz.prog 129 #[.pointer (some ⟨g,0,none⟩),.int .i64 n,.int .i64 ((d:Int)+1),.agg (ndC (leafN k v) AV cV).toArray] w (PutPost g B0 F P root w (putN ns k v f n))):
  Calls Tryz.prog 129 #[.pointer (some ⟨g,0,none⟩),.int .i64 n,.int .i64 (d:Int),.agg (ndC (leafN k v) AV cV).toArray] w (PutPost g B0 F P root w (putN ns k v e n)):=by
 have hun:=Tryz.underlying106
 have hu:=Tryz.underlying37
 have hu2:=Tryz.underlying222
 have hutr:=Tryz.underlying122
 have hiN:=hid (show (Tryz.prog.info? 106).map (·.size)=some (ndC (leafN k v) AV cV).length by rw[ZaG];exact Zbd)
 have hi:=hid (Zaz k)
 have X0:=Zad w (.cells (ndC (leafN k v) AV cV).toArray 106)
 have bx:=BoxN.new w (leafN k v) AV cV 106
 have q0:=hid bx.all
 have k0:=hid (show (w.alloc (.cells (ndC (leafN k v) AV cV).toArray 106)).rangeAt w.heap.size 1 (k.1.map bv) from bx.key)
 have T0:=hid (hT.more (Q:=fun b=>b=w.heap.size) X0 (fun b hb=>by subst hb;exact⟨Vx8 _,by rw[Vx2];omega⟩))
 have x0:=hid (Enc.kept hx (fun b hb hl=>X0.block b hl))
 have hPl:∀b,P b→b<w.heap.size:=fun b hb=>by obtain⟨_,_,_,_,_,_,_,h6⟩:=hT;exact(h6 b hb).1
 have hFl:∀b,F b→b<w.heap.size:=fun b hb=>hPl b (hFP b hb)
 have sz0:=hid (Vx2 w (.cells (ndC (leafN k v) AV cV).toArray 106))
 have nk:=hid (fun (W:World) (h:W.rangeAt w.heap.size 0 (ndC (leafN k v) AV cV))=>(show W.rangeAt w.heap.size 1 (k.1.map bv) from (BoxN.of h).key))
 obtain⟨A,c,R0,r0⟩:=T0.out.cap
 have hiTr:=hid (show (Tryz.prog.info? 122).map (·.size)=some ([Value.slice A ns.length c,.int .i64 root]).length from ZbA)
 obtain⟨n0,n1,-⟩:=id hG
 have hLf:=hid (fun W hW=>Zc1 (fun b=>b<(w.alloc (.cells (ndC (leafN k v) AV cV).toArray 106)).heap.size) A c ns root n W hW n0 n1 (by omega))
 have h8B:=hid (Vx1 hB X0.size)
 have S0:=hid (Zhs hPl X0)
 have W0:=hid (X0.mono hB)
 have hdd:=hid hd
 replace R0:=hid R0
 replace r0:=hid r0
 replace hFP:=hid hFP
 replace hPl:=hid hPl
 replace hFl:=hid hFl
 replace hG:=hid hG
 replace hT:=trivial
 replace hx:=trivial
 clear bx
 generalize hcs:ndC (leafN k v) AV cV=cs at *
 generalize hdk:k.1.map bv=dk at *
 replace hcs:=hid hcs
 replace hdk:=hid hdk
 by_cases hend:EndC ns k n
 ·have hp:putN ns k v e n=(ns++[leafN k v],(ns.length:Int)+1):=ZpU hend
  rw[hp]
  clear hp ih
  have hA:=hid (fun W (h1:TrieAt W g B0 F (fun b=>P b∨b=w.heap.size) ns root) (h2:Enc.rep F W (leafN k v) cs) (h3:B0≤W.heap.size)=>Zul W g B0 F _ ns root (leafN k v) AV cV h1 (by rw[hcs.out];exact h2) h3 (by omega))
  rw[hcs.out]at hA
  by_cases hz:n=0
  ·subst hz
   go_enter Tryz.func129,Tryz.ntmps129
   go_wp2
   generalize w.alloc (.cells cs.toArray 106)=w0 at *
   refine rgB fun hHeld=>?_
   refine' tkW 0 1 ?_
   refine' tkW 2 3 ?_
   simp only[sQ]
   refine' tkW 4 5 ?_
   refine' tkW 6 7 ?_
   simp only[sQ]
   refine' tkW 8 9 ?_
   refine' tkW 10 11 ?_
   simp only[sQ]
   refine' tkW 12 13 ?_
   refine' tkW 14 15 ?_
   simp only[sQ]
   refine' tkW 16 17 ?_
   refine' tkW 18 19 ?_
   simp only[sQ]
   refine dnN ?_
   go_wp2_with ((with_reducible refine lDr (Zab hHeld q0.out) hiN.out hun ?_))
   refine(hA.out _ (T0.out.bel hHeld) (Enc.kept x0.out fun b hb hl=>hHeld.block b hl) (Vx1 h8B.out hHeld.size)).mono ?_
   rintro r w2 ⟨rfl,T2,S2,B2⟩
   go_wp2
   go_ret
   exact⟨rfl,T2.less (fun b hb=>.inl hb),(S0.out.trans (Zhs (fun b hb=>Vx4 (hPl.out b hb) (by have:=sz0.out;omega)) hHeld)).trans (S2.mono fun b hb=>.inl hb),(W0.out.trans (hHeld.mono h8B.out)).trans B2⟩
  ·obtain⟨hl,hk⟩:(ndAt ns n).leaf=true∧(ndAt ns n).k=k:=by rcases hend with h|h;exact absurd h hz;exact h
   obtain⟨j,rfl⟩:∃j:Nat,n=(j:Int)+1:=⟨(n-1).toNat,by omega⟩
   have hj:j<ns.length:=by omega
   have hxn:=Zfn hj
   rw[hxn]at hl hk
   have hne:((j:Int)+1==0)=false:=beq_eq_false_iff_ne.2 hz
   rw[show leafB ns ((j:Int)+1)=true by unfold leafB;rw[hxn,hl,Vy2 hz];rfl]at hLf
   obtain⟨q,o,hAe,A',c',hR,_⟩:=Zb7 r0.out hj
   subst hAe
   have hN:=hid (fun W (hW:W.rangeAt q (o+j * 36) (ndC ns[j] A' c'))=>Zg0 q o j ns.length c root ns[j] A' c' W hW hj (by omega))
   have hF:=fun W=>ZjO ns[j] A' c' W
   rw[hk,hdk.out]at hF
   have hE:∀W,(Op.equalIn 10000 37 (.agg dk.toArray) (.agg dk.toArray)).run Tryz.prog W=.ok true W:=fun W=>by have:=ZaL k k true (Vy2 rfl) W;rw[hdk.out]at this;exact this
   generalize ndC ns[j] A' c'=xs at *
   replace hR:=hid hR
   clear hl hk hxn
   go_enter Tryz.func129,Tryz.ntmps129
   go_wp2
   generalize w.alloc (.cells cs.toArray 106)=w0 at *
   refine rgB fun hHeld=>?_
   refine' tkW 0 1 ?_
   refine' tkW 2 3 ?_
   simp only[sQ]
   refine' tkP 4 rfl ?_
   refine' tkM 5 rfl (fun _ h=>Zab h R0.out) hutr hiTr.out ?_
   refine' tkP 6 rfl ?_
   simp only[sQ]
   refine rdC 7 rfl (hLf.out _ (r0.out.bel hHeld)) fun w7 hB hHeld=>?_
   try simp only[sQ]
   refine' tkW 8 9 ?_
   refine' tkP 10 rfl ?_
   refine' tkM 11 rfl (fun _ h=>Zab h R0.out) hutr hiTr.out ?_
   simp only[sQ]
   refine' tkW 12 15 ?_
   refine' tkM 16 rfl (fun _ h=>Zab h k0.out) hu hi.out ?_
   simp only[sQ]
   refine rdC 13 rfl (hN.out _ (Zab hHeld hR.out)) fun w8 hB hHeld=>?_
   try simp only[sQ]
   refine' tkL 14 ((.agg dk.toArray)) rfl ?_ ?_
   ·intro W hSw
    go_simp
    first|done|(simp only[hF];done)
   try simp only[sQ]
   refine' tkW 17 18 ?_
   refine' tkP 19 rfl ?_
   simp only[sQ]
   refine dnN ?_
   go_wp2_with ((with_reducible refine lDr (Zab hHeld q0.out) hiN.out hun ?_))
   refine(hA.out _ (T0.out.bel hHeld) (Enc.kept x0.out fun b hb hl=>hHeld.block b hl) (Vx1 h8B.out hHeld.size)).mono ?_
   rintro r w2 ⟨rfl,T2,S2,B2⟩
   go_wp2
   go_ret
   exact⟨rfl,T2.less (fun b hb=>.inl hb),(S0.out.trans (Zhs (fun b hb=>Vx4 (hPl.out b hb) (by have:=sz0.out;omega)) hHeld)).trans (S2.mono fun b hb=>.inl hb),(W0.out.trans (hHeld.mono h8B.out)).trans B2⟩
 ·rcases e with _|e
  ·exact absurd (YiU hG.out) hend
  have hz:n≠0:=fun h=>hend (.inl h)
  obtain⟨⟨l0,l1⟩,⟨r0',r1⟩,gl,gr⟩:=Yhc ho (by omega) hG.out hend
  have hdf:255-e=d:=by omega
  rw[hdf]at l0 l1 r0' r1 gl gr
  have hstep:=ZrY (k:=k) (v:=v) (e:=e) (show ¬(n=0∨((ndAt ns n).leaf=true∧(ndAt ns n).k=k)) from hend)
  rw[hdf]at hstep
  have hd2:d<256:=by omega
  have hwd:IntKind.i64.wrap ((d:Int)+1)=d+1:=by rw[IntKind.wrap_i64];omega
  have hBt:=hid (fun W=>ZlU k d hd2 _ W rfl)
  have hFk:=hid (fun (f:Nat)=>fun (m:Int) (h:PG ns k e m)=>YiV (v:=v) ho hv (by omega) h)
  have ihF:=hid (fun (m:Int) (W:World) (P:Nat→Prop)=>ih e rfl m W P)
  have hbit:=Zeu k.1 d
  rw[hdk.out]at hBt
  clear ih
  obtain⟨j,rfl⟩:∃j:Nat,n=(j:Int)+1:=⟨(n-1).toNat,by omega⟩
  have hj:j<ns.length:=by omega
  have hxn:=Zfn hj
  have hne:((j:Int)+1==0)=false:=beq_eq_false_iff_ne.2 hz
  obtain⟨q,o,hAe,A',c',hR,_⟩:=Zb7 r0.out hj
  subst hAe
  have z20:=hid (ZiX)
  cases hl:ns[j].leaf
  rotate_left
  focus
   have hnk:ns[j].k≠k:=fun h=>hend (.inr ⟨by rw[hxn];exact hl,by rw[hxn];exact h⟩)
   rw[show leafB ns ((j:Int)+1)=true by unfold leafB;rw[hxn,hl,Vy2 hz];rfl]at hLf
   have hN:=hid (fun W (hW:W.rangeAt q (o+j * 36) (ndC ns[j] A' c'))=>Zg0 q o j ns.length c root ns[j] A' c' W hW hj (by omega))
   have hF:=fun W=>ZjO ns[j] A' c' W
   have hE:∀W,(Op.equalIn 10000 37 (.agg (ns[j].k.1.map bv).toArray) (.agg dk.toArray)).run Tryz.prog W=.ok false W:=fun W=>by have:=ZaL ns[j].k k false (Vy1 hnk) W;rw[hdk.out]at this;exact this
   have hBn:=hid (fun W=>ZlU ns[j].k d hd2 _ W rfl)
   have hbn:=Zeu ns[j].k.1 d
   have hL:lftD ns d ((j:Int)+1)=if kb ns[j].k.1 d=1 then 0 else (j:Int)+1:=by unfold lftD;rw[hxn,hl,if_pos rfl]
   have hRr:rgtD ns d ((j:Int)+1)=if kb ns[j].k.1 d=1 then (j:Int)+1 else 0:=by unfold rgtD;rw[hxn,hl,if_pos rfl]
   generalize ndC ns[j] A' c'=xs at *
   generalize ns[j].k.1.map bv=dn at *
   generalize kb ns[j].k.1 d=bn at *
   generalize lftD ns d ((j:Int)+1)=L at *
   generalize rgtD ns d ((j:Int)+1)=RR at *
   replace hR:=hid hR
   replace hstep:=hid hstep
   replace gl:=hid gl
   replace gr:=hid gr
   clear hnk hxn hend hl
   go_enter Tryz.func129,Tryz.ntmps129
   go_wp2
   generalize w.alloc (.cells cs.toArray 106)=w0 at *
   refine rgB fun hHeld=>?_
   refine' tkW 0 1 ?_
   refine' tkW 2 3 ?_
   simp only[sQ]
   refine' tkP 4 rfl ?_
   refine' tkM 5 rfl (fun _ h=>Zab h R0.out) hutr hiTr.out ?_
   refine' tkP 6 rfl ?_
   simp only[sQ]
   refine rdC 7 rfl (hLf.out _ (r0.out.bel hHeld)) fun w7 hB hHeld=>?_
   try simp only[sQ]
   refine' tkW 8 9 ?_
   refine' tkP 10 rfl ?_
   refine' tkM 11 rfl (fun _ h=>Zab h R0.out) hutr hiTr.out ?_
   simp only[sQ]
   refine' tkW 12 15 ?_
   refine' tkM 16 rfl (fun _ h=>Zab h k0.out) hu hi.out ?_
   simp only[sQ]
   refine rdC 13 rfl (hN.out _ (Zab hHeld hR.out)) fun w8 hB hHeld=>?_
   try simp only[sQ]
   refine' tkL 14 ((.agg dn.toArray)) rfl ?_ ?_
   ·intro W hSw
    go_simp
    first|done|(simp only[hF];done)
   try simp only[sQ]
   refine' tkW 17 18 ?_
   refine' tkP 19 rfl ?_
   simp only[sQ]
   refine dnN ?_
   have e1:=hid (Vx0 w8 (.cells z2C 222))
   have B1:=hid (hHeld.trans ((Zad w8 (.cells z2C 222)).mono hHeld.size))
   have rb:=hid hHeld.size
   have sz1:=hid (Vx2 w8 (.cells z2C 222))
   go_wp2_with (first
    |(with_reducible refine Zac rfl 222 rfl z2C ZiX ?_)
    |(with_reducible refine lDr (Zab B1.out R0.out) hiTr.out hutr ?_))
   refine(hLf.out _ (r0.out.bel B1.out)).mono ?_
   rintro r w2 ⟨rfl,hb⟩
   have e2:=hid ((hb.block _ (block_lt e1.out)).trans e1.out)
   have B2:=hid (B1.out.trans (hb.mono B1.out.size))
   have lt2:=hid (Vx4 (show w8.heap.size<(w8.alloc (.cells z2C 222)).heap.size by rw[sz1.out];omega) hb.size)
   clear hb e1 B1 hHeld sz1
   generalize w8.heap.size=b2 at *
   go_wp2_with ((with_reducible refine lDr (Zab B2.out R0.out) hiTr.out hutr ?_))
   refine(hN.out _ (Zab B2.out hR.out)).mono ?_
   rintro r w3 ⟨rfl,hb⟩
   have e3:=hid ((hb.block _ (block_lt e2.out)).trans e2.out)
   have B3:=hid (B2.out.trans (hb.mono B2.out.size))
   have lt3:=hid (Vx4 lt2.out hb.size)
   clear hb e2 B2 lt2
   go_wp2_with fail
   refine(hBn.out _).mono ?_
   rintro r w4 ⟨rfl,hb⟩
   have e4:=(hb.block _ (block_lt e3.out)).trans e3.out
   have B4:=hid (B3.out.trans (hb.mono B3.out.size))
   have lt4:=hid (Vx4 lt3.out hb.size)
   have f40:=Zap e4 0
   have f41:=Zap e4 1
   have c40:=Zaq e4 0
   have c41:=Zaq e4 1
   simp only[z2C,List.getElem?_toArray,List.getElem?_cons_zero,List.getElem?_cons_succ]at c40 c41
   replace e4:=hid e4
   clear hb e3 B3 lt3 hF hE
   rcases (show bn=0∨bn=1 by omega) with rfl|rfl
   focus
    have eL:=hid (show (j:Int)+1=L by rw[hL,if_neg (by decide)])
    have eR:=hid (show (0:Int)=RR by rw[hRr,if_neg (by decide)])
    clear hL hRr
    have e5:=hid (ZaD e4.out 0 (.int .i64 ((j:Int)+1)))
    have B5:=hid (B4.out.setCell (p:=⟨b2,0,none⟩) rb.out (.int .i64 ((j:Int)+1)))
    rw[show (z2C:Array Value).setIfInBounds 0 (.int .i64 ((j:Int)+1))=#[.int .i64 ((j:Int)+1),.int .i64 0] from rfl]at e5
    have lt5:=hid (show b2<(w4.setCell ⟨b2,0,none⟩ (.int .i64 ((j:Int)+1))).heap.size by have:=block_lt e5.out;exact this)
    go_wp2_with ((with_reducible refine lDr (Zab B5.out k0.out) hi.out hu ?_))
    clear e4 B4 lt4 f40 f41 c40 c41
    generalize w4.setCell ⟨b2,0,none⟩ (.int .i64 ((j:Int)+1))=w5 at *
    rw[eL.out,eR.out]at e5
    clear eL eR
   rotate_left
   focus
    have eL:=hid (show (0:Int)=L by rw[hL,if_pos rfl])
    have eR:=hid (show (j:Int)+1=RR by rw[hRr,if_pos rfl])
    clear hL hRr
    have e5:=hid (ZaD e4.out 1 (.int .i64 ((j:Int)+1)))
    have B5:=hid (B4.out.setCell (p:=⟨b2,1,none⟩) rb.out (.int .i64 ((j:Int)+1)))
    rw[show (z2C:Array Value).setIfInBounds 1 (.int .i64 ((j:Int)+1))=#[.int .i64 0,.int .i64 ((j:Int)+1)] from rfl]at e5
    have lt5:=hid (show b2<(w4.setCell ⟨b2,1,none⟩ (.int .i64 ((j:Int)+1))).heap.size by have:=block_lt e5.out;exact this)
    go_wp2_with ((with_reducible refine lDr (Zab B5.out k0.out) hi.out hu ?_))
    clear e4 B4 lt4 f40 f41 c40 c41
    generalize w4.setCell ⟨b2,1,none⟩ (.int .i64 ((j:Int)+1))=w5 at *
    rw[eR.out,eL.out]at e5
    clear eL eR
  rotate_left 2
  focus
   rw[show leafB ns ((j:Int)+1)=false by unfold leafB;rw[hxn,hl,Vy2 hz];rfl]at hLf
   have hRd:=hid (fun W (hW:W.rangeAt q (o+j * 36) (ndC ns[j] A' c'))=>ZgJ q o j ns.length c root ns[j] A' c' W hW hj (by omega))
   have hL:lftD ns d ((j:Int)+1)=ns[j].l:=by unfold lftD;rw[hxn,hl];rfl
   have hRr:rgtD ns d ((j:Int)+1)=ns[j].r:=by unfold rgtD;rw[hxn,hl];rfl
   rw[← hL,←hRr]at hRd
   generalize ndC ns[j] A' c'=xs at *
   generalize lftD ns d ((j:Int)+1)=L at *
   generalize rgtD ns d ((j:Int)+1)=RR at *
   replace hR:=hid hR
   replace hstep:=hid hstep
   replace gl:=hid gl
   replace gr:=hid gr
   clear hxn hend hl hL hRr
   go_enter Tryz.func129,Tryz.ntmps129
   go_wp2
   generalize w.alloc (.cells cs.toArray 106)=w0 at *
   refine rgB fun hHeld=>?_
   refine' tkW 0 1 ?_
   refine' tkW 2 3 ?_
   simp only[sQ]
   refine' tkP 4 rfl ?_
   refine' tkM 5 rfl (fun _ h=>Zab h R0.out) hutr hiTr.out ?_
   refine' tkP 6 rfl ?_
   simp only[sQ]
   refine rdC 7 rfl (hLf.out _ (r0.out.bel hHeld)) fun w8 hB hHeld=>?_
   try simp only[sQ]
   refine' tkW 8 9 ?_
   refine' tkW 10 11 ?_
   simp only[sQ]
   refine' tkW 12 13 ?_
   refine' tkW 14 15 ?_
   simp only[sQ]
   refine' tkW 16 17 ?_
   refine' tkW 18 19 ?_
   simp only[sQ]
   refine dnN ?_
   have e1:=hid (Vx0 w8 (.cells z2C 222))
   have B1:=hid (hHeld.trans ((Zad w8 (.cells z2C 222)).mono hHeld.size))
   have rb:=hid hHeld.size
   have sz1:=hid (Vx2 w8 (.cells z2C 222))
   go_wp2_with (first
    |(with_reducible refine Zac rfl 222 rfl z2C ZiX ?_)
    |(with_reducible refine lDr (Zab B1.out R0.out) hiTr.out hutr ?_))
   refine(hLf.out _ (r0.out.bel B1.out)).mono ?_
   rintro r w2 ⟨rfl,hb⟩
   have e2:=hid ((hb.block _ (block_lt e1.out)).trans e1.out)
   have B2:=hid (B1.out.trans (hb.mono B1.out.size))
   have lt2:=hid (Vx4 (show w8.heap.size<(w8.alloc (.cells z2C 222)).heap.size by rw[sz1.out];omega) hb.size)
   clear hb e1 B1 hHeld sz1
   generalize w8.heap.size=b2 at *
   go_wp2_with ((with_reducible refine lDr (Zab B2.out R0.out) hiTr.out hutr ?_))
   refine(hRd.out _ (Zab B2.out hR.out)).mono ?_
   rintro r w4 ⟨rfl,hb⟩
   have e4:=hid ((hb.block _ (block_lt e2.out)).trans e2.out)
   have B4:=hid (B2.out.trans (hb.mono B2.out.size))
   clear hb e2 B2 lt2
   go_wp2_with (first
    |((with_reducible refine stW 9 53 b2 222 z2C ?_ ?_ ?_ ?_ ?_);exact e4.out;exact size2;rfl;exact Yb0 L RR;intro w5 hg5 hb5 hs5;have e5:=hid hg5;have B5:=hid (B4.out.grown hb5 B4.out.size (fun k e=>by injection e with e;subst e;exact rb.out));have lt5:=hid (block_lt hg5);clear hg5 hb5 hs5 e4 B4)
    |(with_reducible refine lDr (Zab B5.out k0.out) hi.out hu ?_))
  all_goals
   generalize kb k.1 d=bb at *
   rcases (show bb=0∨bb=1 by omega) with rfl|rfl
   ·as_aux_lemma=>
     have hres:=hstep.out
     rw[if_neg (by decide)]at hres
     have hg1:=gl.out rfl
     obtain⟨p1,p2,p3⟩:=hFk.out 0 _ hg1
     have iha:=ihF.out (L)
     generalize putN ns k v e (L)=rp at *
     obtain⟨ns2,M⟩:=rp
     dsimp only at p1 p2 p3 hres
     replace hres:=hid hres
     have hg1:=hid hg1
     replace iha:=hid iha
     have hfk:=hid (fun W h1 h2=>ZcV W g B0 F (fun b=>(P b∨b=w.heap.size)∨b=b2) ns2 root (M) (RR) h1 h2 (by omega) ⟨by omega,by omega⟩ ⟨by omega,by omega⟩)
     clear hstep gl gr ihF hFk
     have e5c:=Zaq e5.out 0
     simp only[List.getElem?_toArray,List.getElem?_cons_zero,List.getElem?_cons_succ]at e5c
     have T5:=hid ((T0.out.more (Q:=fun b=>b=b2) B5.out (fun b hb=>by subst hb;exact⟨rb.out,lt5.out⟩)))
     refine(hBt.out _).mono ?_
     rintro r w6 ⟨rfl,hb⟩
     have c6:=(hb.cell (p:=⟨b2,0,none⟩) lt5.out).trans e5c
     have g6:=hid ((hb.block _ lt5.out).trans e5.out)
     have B6:=hid (B5.out.trans (hb.mono B5.out.size))
     have T6:=hid (T5.out.bel hb)
     have q6:=hid (Zab B6.out q0.out)
     have x6:=hid (Enc.kept x0.out (fun b hb hl=>B6.out.block b hl))
     clear hb e5 e5c B5 T5 lt5
     go_wp2
     refine wp_region_noPanic ?_
     refine wp_region_held_drew (S:=fun w'=>w'.rangeAt w.heap.size 0 cs) (by kernel_rfl) ?_ (fun hHeld=>?_)
     ·exact q6.out
     refine' tkW 0 1 ?_
     refine' tkW 2 3 ?_
     simp only[sQ]
     refine' tkW 5 6 ?_
     refine' tkM 7 rfl (fun _ h=>h) hun hiN.out ?_
     simp only[sQ]
     refine rdH 4 rfl fun K hK=>?_
     go_simp
     refine hK.out _ _ (hHeld) fun hHeld=>?_
     clear hK K
     try simp only[sQ]
     refine rdH 8 rfl fun K hK=>?_
     go_simp
     refine(iha.out _ (fun b=>(P b∨b=w.heap.size)∨b=b2) hg1.out (T6.out.bel (Zao w6)) (Vx1 h8B.out B6.out.size) (Enc.kept x6.out fun _ _ _=>rfl) (fun b hb=>.inl (.inl (hFP.out b hb)))).mono ?_
     rintro r w7 ⟨rfl,T7,S7,B7⟩
     have g7:=(S7 b2 (.inr rfl)).trans g6.out
     have f7:=Zap g7 0
     have d7:=Zaq g7 0
     simp only[List.getElem?_toArray,List.getElem?_cons_zero,List.getElem?_cons_succ]at d7
     replace g7:=hid g7
     replace T7:=hid T7
     replace S7:=hid S7
     replace B7:=hid B7
     go_wp2_with fail
     refine hK.out _ _ (Zak hHeld (fun _=>S7 w.heap.size (.inl (.inr rfl)))) fun hHeld=>?_
     clear hK K
     try simp only[sQ]
     refine' tkP 9 rfl ?_
     simp only[sQ]
     refine rdH 10 rfl fun K hK=>?_
     go_simp
     refine hK.out _ _ (Zak hHeld (fun _=>Vy3 _ _ _ _ (by have:=rb.out;have:=sz0.out;show w.heap.size≠b2;omega))) fun hHeld=>?_
     clear hK K
     try simp only[sQ]
     refine dnN ?_
     have g8:=hid (ZaD g7.out 0 (.int .i64 M))
     have T8:=hid (T7.out.at_ (b0:=b2) (w':=w7.setCell ⟨b2,0,none⟩ (.int .i64 M)) (.inr rfl) (fun h=>by have:=hFl.out b2 h;have:=rb.out;have:=sz0.out;omega) (by simp[World.setCell]) (fun b _ hn=>Vy3 _ _ _ _ hn))
     have S8:=hid (fun b (hp:P b)=>(Vy3 w7 ⟨b2,0,none⟩ (.int .i64 M) b (by have:=hPl.out b hp;have:=rb.out;have:=sz0.out;show b≠b2;omega)).trans ((S7.out b (.inl (.inl hp))).trans ((B6.out.block b (by have:=hPl.out b hp;have:=sz0.out;omega)).trans (S0.out b hp))))
     have B8:=hid (((W0.out.trans (B6.out.mono h8B.out)).trans (Zdn B7.out)).setCell (p:=⟨b2,0,none⟩) (Vx1 h8B.out rb.out) (.int .i64 M))
     rw[Zvu]at g8
     have hsz8:=hid (show B0≤(w7.setCell ⟨b2,0,none⟩ (.int .i64 M)).heap.size by have:=B8.out.size;omega)
     have r8:=hid (Zae (l:=[Value.int .i64 (M),.int .i64 (RR)]) g8.out)
     clear T7 S7 B7 g7 f7 d7 T6 c6 g6 B6 q6 x6 hHeld iha
     generalize w7.setCell ⟨b2,0,none⟩ (.int .i64 M)=w8 at *
     have hi8:=hid (show (Tryz.prog.info? 222).map (·.size)=some ([Value.int .i64 (M),.int .i64 (RR)]).length from size2)
     go_wp2_with ((with_reducible refine lDr r8.out hi8.out hu2 ?_))
     refine(hfk.out _ T8.out hsz8.out).mono ?_
     rintro r w9 ⟨rfl,T9,S9,B9⟩
     go_wp2
     go_ret
     rw[hres.out]
     exact⟨rfl,T9.less (fun b hb=>.inl (.inl hb)),fun b hp=>(S9 b (.inl (.inl hp))).trans (S8.out b hp),B8.out.trans B9⟩
   ·as_aux_lemma=>
     have hres:=hstep.out
     rw[if_pos rfl]at hres
     have hg1:=gr.out rfl
     obtain⟨p1,p2,p3⟩:=hFk.out 0 _ hg1
     have iha:=ihF.out (RR)
     generalize putN ns k v e (RR)=rp at *
     obtain⟨ns2,M⟩:=rp
     dsimp only at p1 p2 p3 hres
     replace hres:=hid hres
     have hg1:=hid hg1
     replace iha:=hid iha
     have hfk:=hid (fun W h1 h2=>ZcV W g B0 F (fun b=>(P b∨b=w.heap.size)∨b=b2) ns2 root (L) (M) h1 h2 (by omega) ⟨by omega,by omega⟩ ⟨by omega,by omega⟩)
     clear hstep gl gr ihF hFk
     have e5c:=Zaq e5.out 1
     simp only[List.getElem?_toArray,List.getElem?_cons_zero,List.getElem?_cons_succ]at e5c
     have T5:=hid ((T0.out.more (Q:=fun b=>b=b2) B5.out (fun b hb=>by subst hb;exact⟨rb.out,lt5.out⟩)))
     refine(hBt.out _).mono ?_
     rintro r w6 ⟨rfl,hb⟩
     have c6:=(hb.cell (p:=⟨b2,1,none⟩) lt5.out).trans e5c
     have g6:=hid ((hb.block _ lt5.out).trans e5.out)
     have B6:=hid (B5.out.trans (hb.mono B5.out.size))
     have T6:=hid (T5.out.bel hb)
     have q6:=hid (Zab B6.out q0.out)
     have x6:=hid (Enc.kept x0.out (fun b hb hl=>B6.out.block b hl))
     clear hb e5 e5c B5 T5 lt5
     go_wp2
     refine wp_region_noPanic ?_
     refine wp_region_held_drew (S:=fun w'=>w'.rangeAt w.heap.size 0 cs) (by kernel_rfl) ?_ (fun hHeld=>?_)
     ·exact q6.out
     refine' tkW 0 1 ?_
     refine' tkW 2 3 ?_
     simp only[sQ]
     refine' tkW 5 6 ?_
     refine' tkM 7 rfl (fun _ h=>h) hun hiN.out ?_
     simp only[sQ]
     refine rdH 4 rfl fun K hK=>?_
     go_simp
     refine hK.out _ _ (hHeld) fun hHeld=>?_
     clear hK K
     try simp only[sQ]
     refine rdH 8 rfl fun K hK=>?_
     go_simp
     refine(iha.out _ (fun b=>(P b∨b=w.heap.size)∨b=b2) hg1.out (T6.out.bel (Zao w6)) (Vx1 h8B.out B6.out.size) (Enc.kept x6.out fun _ _ _=>rfl) (fun b hb=>.inl (.inl (hFP.out b hb)))).mono ?_
     rintro r w7 ⟨rfl,T7,S7,B7⟩
     have g7:=(S7 b2 (.inr rfl)).trans g6.out
     have f7:=Zap g7 1
     have d7:=Zaq g7 1
     simp only[List.getElem?_toArray,List.getElem?_cons_zero,List.getElem?_cons_succ]at d7
     replace g7:=hid g7
     replace T7:=hid T7
     replace S7:=hid S7
     replace B7:=hid B7
     go_wp2_with fail
     refine hK.out _ _ (Zak hHeld (fun _=>S7 w.heap.size (.inl (.inr rfl)))) fun hHeld=>?_
     clear hK K
     try simp only[sQ]
     refine' tkP 9 rfl ?_
     simp only[sQ]
     refine rdH 10 rfl fun K hK=>?_
     go_simp
     refine hK.out _ _ (Zak hHeld (fun _=>Vy3 _ _ _ _ (by have:=rb.out;have:=sz0.out;show w.heap.size≠b2;omega))) fun hHeld=>?_
     clear hK K
     try simp only[sQ]
     refine dnN ?_
     have g8:=hid (ZaD g7.out 1 (.int .i64 M))
     have T8:=hid (T7.out.at_ (b0:=b2) (w':=w7.setCell ⟨b2,1,none⟩ (.int .i64 M)) (.inr rfl) (fun h=>by have:=hFl.out b2 h;have:=rb.out;have:=sz0.out;omega) (by simp[World.setCell]) (fun b _ hn=>Vy3 _ _ _ _ hn))
     have S8:=hid (fun b (hp:P b)=>(Vy3 w7 ⟨b2,1,none⟩ (.int .i64 M) b (by have:=hPl.out b hp;have:=rb.out;have:=sz0.out;show b≠b2;omega)).trans ((S7.out b (.inl (.inl hp))).trans ((B6.out.block b (by have:=hPl.out b hp;have:=sz0.out;omega)).trans (S0.out b hp))))
     have B8:=hid (((W0.out.trans (B6.out.mono h8B.out)).trans (Zdn B7.out)).setCell (p:=⟨b2,1,none⟩) (Vx1 h8B.out rb.out) (.int .i64 M))
     rw[Zvv]at g8
     have hsz8:=hid (show B0≤(w7.setCell ⟨b2,1,none⟩ (.int .i64 M)).heap.size by have:=B8.out.size;omega)
     have r8:=hid (Zae (l:=[Value.int .i64 (L),.int .i64 (M)]) g8.out)
     clear T7 S7 B7 g7 f7 d7 T6 c6 g6 B6 q6 x6 hHeld iha
     generalize w7.setCell ⟨b2,1,none⟩ (.int .i64 M)=w8 at *
     have hi8:=hid (show (Tryz.prog.info? 222).map (·.size)=some ([Value.int .i64 (L),.int .i64 (M)]).length from size2)
     go_wp2_with ((with_reducible refine lDr r8.out hi8.out hu2 ?_))
     refine(hfk.out _ T8.out hsz8.out).mono ?_
     rintro r w9 ⟨rfl,T9,S9,B9⟩
     go_wp2
     go_ret
     rw[hres.out]
     exact⟨rfl,T9.less (fun b hb=>.inl (.inl hb)),fun b hp=>(S9 b (.inl (.inl hp))).trans (S8.out b hp),B8.out.trans B9⟩
theorem ZqJ(g B0:Nat)(F:Nat→Prop)(k:Dg)(v:List UInt8)(AV:Option Addr)(cV:Nat)(ns:List Nd)(root:Int)(ho:Ones ns)(hv:valB v=true)(hlen:ns.length+600≤1000000):∀(e d:Nat) (n:Int) (w:World) (P:Nat→Prop),e+d=256→PG ns k e n→
  TrieAt w g B0 F P ns root→B0≤w.heap.size→Enc.rep F w (leafN k v) (ndC (leafN k v) AV cV)→(∀ b,F b→P b)→
  Calls Tryz.prog 129 #[.pointer (some ⟨g,0,none⟩),.int .i64 n,.int .i64 (d:Int),.agg (ndC (leafN k v) AV cV).toArray] w (PutPost g B0 F P root w (putN ns k v e n))
 |0,d,n,w,P,hd,hG,hT,hB,hx,hFP=>Zoa g B0 F k v AV cV ns root ho hv hlen 0 d n hd hG w P hT hB hx hFP fun f hf=>by omega
 |e+1,d,n,w,P,hd,hG,hT,hB,hx,hFP=>Zoa g B0 F k v AV cV ns root ho hv hlen (e+1) d n hd hG w P hT hB hx hFP fun f hf n w P hG hT hB hx hFP=>by
  obtain rfl:e=f:=by omega
  exact ZqJ g B0 F k v AV cV ns root ho hv hlen e (d+1) n w P (by omega) hG hT hB hx hFP
theorem RowO.there{α:Type}[Enc α]{E:TypeId}{F:Nat→Prop}{w:World}{B c g:Nat}{xs:List α}(h:RowO E F w B (some ⟨g,0,none⟩) c xs){j:Nat}(hj:j<xs.length):w.there g (j * Enc.size α) (Enc.size α):=by
 obtain⟨css,h1,⟨h0,h2⟩,h3,h4⟩:=h
 rcases h2 with ⟨hv,_⟩|⟨g',cap,cur,hv,hbg,hg,hnc,hcm,hcs,ht⟩
 ·injection hv with e;cases e
 ·injection hv with e1 e2 e3
  injection e1 with e1
  injection e1 with e1
  subst e1 e3
  intro i hi
  have hle:j * Enc.size α+Enc.size α≤c * Enc.size α:=by
   rw[← Nat.succ_mul]
   exact Nat.mul_le_mul_right _ (Vx4 hj hnc)
  refine⟨?_,Zap hg _⟩
  rw[Zaq hg,Array.getElem?_eq_getElem (by omega)]
  rfl
theorem ZnA{E:TypeId}{w:World}{B:Nat}(x:Nd){A:Option Addr}{c:Nat}(h:Own E w B A c x.v)(h4:I64 x.l)(h5:I64 x.r):Enc.rep (fun b=>∃a,A=some a∧b=a.block) w x (ndC x A c):=
 Zf7 x A c h.cap.1 h.cap.2 (h.rd.row fun a ha _=>⟨a,ha,rfl⟩) h4 h5
theorem Zux(w:World)(A:Option Addr)(n c:Nat)(root:Int):
  BoxT ((w.alloc (.cells #[.slice A n c,.int .i64 root] 24)).alloc (.cells zTrC 24)) w.heap.size A n c root∧
  ((w.alloc (.cells #[.slice A n c,.int .i64 root] 24)).alloc (.cells zTrC 24)).heap[w.heap.size+1]? =some (.cells zTrC 24)∧
  Below w.heap.size w ((w.alloc (.cells #[.slice A n c,.int .i64 root] 24)).alloc (.cells zTrC 24))∧
  ((w.alloc (.cells #[.slice A n c,.int .i64 root] 24)).alloc (.cells zTrC 24)).heap.size=w.heap.size+2:=by
 have h2:=Vx0 (w.alloc (.cells #[.slice A n c,.int .i64 root] 24)) (.cells zTrC 24)
 rw[Vx2]at h2
 exact⟨(BoxT.new w A n c root _).bel (Zad _ _),h2,Zag (Zad _ _) (Zad _ _),by simp⟩
theorem Zat(A:Option Addr)(n c:Nat)(root:Int):(#[Value.slice A n c,.int .i64 root]:Array Value).all (·.oneCell')=true:=all_oneCell_toArray (cs:=[Value.slice A n c,.int .i64 root]) fun u hu=>by
 simp at hu
 rcases hu with rfl|rfl<;>rfl
theorem ZhN(A:Option Addr)(n c:Nat)(root:Int):Tryz.prog.built 24 [(0,.slice A n c),(1,.int .i64 root)]=some #[Value.slice A n c,.int .i64 root]:=by kernel_rfl
theorem Yew{ns:List Nd}{j:Nat}(h:j<ns.length):(ns.take j++List.replicate (ns.length-j) nd0).set j ns[j]=ns.take (j+1)++List.replicate (ns.length-(j+1)) nd0:=by
 have hl:(ns.take j).length=j:=by rw[List.length_take];omega
 rw[List.set_append_right _ _ (by omega),hl,Nat.sub_self,Vy5 h]
 obtain⟨m,hm⟩:∃m,ns.length-j=m+1:=⟨ns.length-j-1,by omega⟩
 rw[hm,List.replicate_succ,List.set_cons_zero,show ns.length-(j+1)=m by omega,List.append_assoc]
 rfl
theorem OwnQ.keptAtP{α:Type}[Enc α]{E:TypeId}{w w':World}{B0 B g:Nat}{A:Option Addr}{c:Nat}{xs:List α}(h:OwnQ E w B0 B A c xs)(hg:w.grownBy w' (some g))(h0:g<B0)(h1:g<B):OwnQ E w' B0 B A c xs:=by
 have hb:=h.blk
 obtain⟨F,k1,k2⟩:=h
 refine⟨F,k1.kept (fun a ha hl=>hg.block _ hl fun e=>?_) (fun b hf hl=>hg.block b hl fun e=>?_),fun b hf=>⟨(k2 b hf).1,(k2 b hf).2.kept (hg.block b (k2 b hf).2.lt fun e=>?_)⟩⟩
 ·have:=(hb a ha).1;injection e with e;omega
 ·have:=(k2 b hf).1;injection e with e;omega
 ·have:=(k2 b hf).1;injection e with e;omega
theorem YeK{w:World}{g o n:Nat}{l:List Value}(h:w.there g o n)(e:l.length=n):w.there g o l.toArray.size:=by
 subst e
 exact h
theorem Zwk{w w1:World}(h:w.grownBy w1 none):Below w.heap.size w w1:=⟨h.os,h.tape,h.output,h.size,fun b hb=>h.block b hb (fun e=>by cases e)⟩
theorem ZeC(F:Nat→Prop)(A:Option Addr)(c:Nat)(ns:List Nd)(root:Int)(w:World)(hr:Row F w A ns)(hc:ns.length≤1000000)(hv:∀x∈ns,x.v.length≤1000000):
  Calls Tryz.prog 71 #[.agg #[.slice A ns.length c,.int .i64 root]] w fun e w'=>∃A' c',e=.returned (.agg #[.slice A' ns.length c',.int .i64 root])∧OwnR 106 w' w.heap.size A' c' ns∧Below w.heap.size w w':=by
 obtain⟨T0,h1,W0,hsz⟩:=Zux w A ns.length c root
 have hr0:=(hr.mono (G:=fun b=>b<w.heap.size) fun b _ h=>h).bel W0
 have hun:=Tryz.underlying106
 have hut:=Tryz.underlying24
 obtain⟨iN,hiN,hzN,hsN,hbN⟩:=info_parts slotNd.info
 have hbu:=fun A' c'=>ZhN A' ns.length c' root
 have y0:=T0.ns
 replace hbu:=hid hbu
 replace h1:=hid h1
 replace hsz:=hid hsz
 replace hr0:=hid hr0
 replace hv:=hid hv
 replace hiN:=hid hiN
 replace hzN:=hid hzN
 replace hsN:=hid hsN
 replace hbN:=hid hbN
 have hcs:IntKind.i64.wrap (ns.length:Int)=ns.length:=by rw[IntKind.wrap_i64];omega
 replace hcs:=hid hcs
 go_enter Tryz.func71,Tryz.ntmps71
 go_wp2_with (first
  |(with_reducible refine Zac rfl 24 rfl zTrC Zas ?_)
  |((with_reducible refine wpList_make_full _ rfl (.tmp 8) (.tmp 8) 22 rfl (w.heap.size+1+1) 106 iN zNd (Enc.size Nd) ?_ hiN.out hzN.out hsN.out .i64 .i64 _ _ ns.length rfl rfl rfl rfl ?_ ?_ ?_ ?_);exact slotNd.under;(rw[hbN.out];omega);(unfold maxLen;omega);exact Nat.le_of_eq hsz.out.symm;intro w1 ho1 hg1;have B1:=Zwk hg1;have T1:=T0.bel B1;have y1:=T1.ns;have r1:=hid (hr0.out.bel B1);have z1:=hid ((B1.block _ (block_lt h1.out)).trans h1.out);have W1:=hid (W0.trans (B1.mono W0.size));have O1:=hid ho1;clear ho1 hg1 B1))
 simp only[Vx2]at O1
 have M1:=hid (RowO.made (F:=fun _=>False) (B:=w.heap.size+1+1) (x0:=nd0) (z:=ndC nd0 none 0) (Zf7 nd0 none 0 (Vx8 _) (Nat.zero_le _) (Row.nil _ _ _) ⟨by decide,by decide⟩ ⟨by decide,by decide⟩) slotNd.pos O1.out (fun h=>h))
 have lt1:=hid (show w.heap.size+1+1<w1.heap.size from (O1.out.lt _ rfl).2)
 clear O1 T0 y0 hr0 h1 hsz hiN hzN hsN hbN W0
 go_loopw [13] (fun i wr=>∃j:Nat,j≤ns.length∧i=.int .i64 j∧(∃ F,RowO 106 F wr (w.heap.size+1+1) (some ⟨w.heap.size+1+1,0,none⟩) ns.length (ns.take j++List.replicate (ns.length-j) nd0)∧∀b,F b→w.heap.size+1+1+1≤b∧Soft wr b)∧Below (w.heap.size+1+1) w1 wr) (fun i _=>ns.length-(intOf i).toNat)
 case atStart=>exact⟨0,Nat.zero_le _,rfl,⟨fun _=>False,by simpa using M1.out,fun b (h:False)=>h.elim⟩,Below.refl _ _⟩
 case round=>
  obtain⟨j,hj,rfl,⟨F0,hown,hFs⟩,hbw⟩:=hrel
  have T2:=BoxT.of (Zak T1.all (fun _=>hbw.block _ (by omega)))
  have r2:=r1.out.kept (fun b hb _=>hbw.block b (by omega)) hbw.size
  have y2:=T2.ns
  have y3:=T2.rt
  have hbs:=hid hbw.size
  by_cases hlt:j<ns.length
  ·have hv1:=hv.out _ (List.getElem_mem hlt)
   have E:=hid (Yew hlt)
   obtain⟨q,o,hAe,A',c',hR,hv2,hv3,hv4,hI1,hI2⟩:=Zb7 r2 hlt
   subst hAe
   have hiN:=fun A2 c2=>hid (show (Tryz.prog.info? 106).map (·.size)=some (ndC ns[j] A2 c2).length by rw[ZaG];exact Zbd)
   have hiS:=fun A2 c2=>hid (show (Tryz.prog.info? 106).map (·.size)=some (ndC ns[j] A2 c2).toArray.size by rw[Vx7,ZaG];exact Zbd)
   have hzs:=fun A2 c2=>hid (show zNdC.size=(ndC ns[j] A2 c2).toArray.size by rw[ZbY,Vx7,ZaG])
   have hone:=fun A2 c2=>hid (ZcZ ns[j] A2 c2)
   have hlen:=fun A2 c2=>hid (ZaG ns[j] A2 c2)
   have hz9:=hid (Vx0 wr (.cells zNdC 106))
   have hrd:=hid hv4.rd
   have hrn:=hid (fun (W:World) (A2:Option Addr) (c2 B:Nat) (h:Own 5 W B A2 c2 ns[j].v)=>ZnA ns[j] h hI1 hI2)
   have hTw:=hid (fun W (hW:Rd W A' ns[j].v)=>Zjz ns[j] A' c' W hW hv1)
   have hjl:j<(ns.take j++List.replicate (ns.length-j) nd0).length:=by simp;omega
   generalize hy:ns.take (j+1)++List.replicate (ns.length-(j+1)) nd0=y at *
   generalize hx0:ns.take j++List.replicate (ns.length-j) nd0=x0 at *
   generalize hxx:ns[j]=x at *
   replace hy:=hid hy
   replace hown:=hid hown
   replace hFs:=hid hFs
   replace hbw:=hid hbw
   replace hR:=hid hR
   replace hjl:=hid hjl
   clear hx0 hxx hv4 hv2 hv3 r2 T2 hI1 hI2 hv1
   go_wp2_with (first
    |(with_reducible refine Zac rfl 106 rfl zNdC Zbh ?_)
    |(with_reducible refine lDr hR.out (hiN A' c').out hun ?_)
    |((with_reducible refine stW 5 17 _ 106 zNdC ?_ ?_ ?_ ?_ ?_);exact hz9.out;exact(hiS A' c').out;exact(hzs A' c').out;exact(hone A' c').out;intro w4 hg4 hb4 hs4;have X4:=hid (Zan rfl hb4);have g4:=hid (Zae hg4);clear hg4 hb4 hs4)
    |(with_reducible refine lDr g4.out (hiN A' c').out hun ?_))
   refine(hTw.out _ (hrd.out.bel X4.out)).mono ?_
   rintro e w5 ⟨A5,c5,rfl,ho5,hb5⟩
   have Wa:=hid (X4.out.trans (hb5.mono X4.out.size))
   have own5:=hid (hown.out.bel Wa.out)
   have hbk:=hid hown.out.blk
   have ap5:∀a,A5=some a→wr.heap.size≤a.block:=fun a ha=>Vx1 X4.out.size (ho5.blk a ha).1
   have own6:=own5.out.mono (G:=fun b=>F0 b∨∃a,A5=some a∧b=a.block) (fun b hb _=>.inl hb) (fun a ha hf=>by
    rcases hf with hf|⟨a5,h5,e5⟩
    ·exact own5.out.apart a ha hf
    ·have h7:=(hbk.out a ha).2
     have h8:=ap5 a5 h5
     omega)
   have th6:=hid (own6.there hjl.out)
   have rep6:=Enc.mono (G:=fun b=>F0 b∨∃a,A5=some a∧b=a.block) (hrn.out _ A5 c5 _ ho5) (fun b hb _=>.inr hb)
   have own7:=hid (own6.set hjl.out rep6)
   have Fs7:=hid (fun b (hb:F0 b∨∃a,A5=some a∧b=a.block)=>(show w.heap.size+1+1+1≤b∧Soft (w5.setCells (w.heap.size+1+1) (j * Enc.size Nd) (ndC x A5 c5)) b from by
    have hne:b≠w.heap.size+1+1:=fun e=>own6.apart _ rfl (by rw[← e];exact hb)
    rcases hb with hb|⟨a,ha,rfl⟩
    ·exact⟨(hFs.out b hb).1,((hFs.out b hb).2.kept (Wa.out.block b (hFs.out b hb).2.lt)).kept (ZdW hne _ _ _)⟩
    ·exact⟨by have:=ap5 a ha;have:=lt1.out;have:=hbs.out;omega,((ho5.soft a ha).2).kept (ZdW hne _ _ _)⟩))
   have th7:=hid (YeK (n:=36) th6.out ((hlen A5 c5).out))
   have W7:=hid (ZgH (B:=w.heap.size+1+1) (Vx8 _) (ndC x A5 c5) (j * Enc.size Nd) (hbw.out.trans (Wa.out.mono (by have:=lt1.out;have:=hbs.out;omega))))
   clear ho5 hb5 own5 own6 rep6 hown hTw hrd hR
   go_wp2_with (((with_reducible refine wpList_store_mid rfl 106 (.tmp 22) (.tmp 21) rfl (w.heap.size+1+1) (j * 36) (ndC x A5 c5).toArray rfl rfl ?_ ?_ ?_ ?_);exact th7.out;exact(hiS A5 c5).out;exact(hone A5 c5).out))
   go_roundw
   case rel=>exact⟨j+1,by omega,by go_num,⟨_,by rw[hy.out,←E.out];exact own7.out,Fs7.out⟩,W7.out⟩
   case measure=>simp[intOf];omega
  ·obtain rfl:j=ns.length:=by omega
   rw[List.take_length,Nat.sub_self,List.replicate_zero,List.append_nil]at hown
   have own8:=hid (show OwnQ 106 wr (w.heap.size+1+1+1) (w.heap.size+1+1) (some ⟨w.heap.size+1+1,0,none⟩) ns.length ns from ⟨F0,hown,hFs⟩)
   have z8:=hid ((hbw.block (w.heap.size+1) (by omega)).trans z1.out)
   have W8:=hid (W1.out.trans (hbw.mono (by omega)))
   clear hown hFs
   go_wp2_with (first
    |((with_reducible refine Zaf rfl 24 _ rfl #[Value.slice (some ⟨w.heap.size+1+1,0,none⟩) ns.length ns.length,.int .i64 root] [(0,.slice (some ⟨w.heap.size+1+1,0,none⟩) ns.length ns.length),(1,.int .i64 root)] ?_ ?_ ?_);exact hbu.out _ _;rfl)
    |((with_reducible refine stW 2 27 (w.heap.size+1) 24 zTrC ?_ ?_ ?_ ?_ ?_);exact z8.out;exact Zah;rfl;exact Zat (some ⟨w.heap.size+1+1,0,none⟩) ns.length ns.length root;intro w9 hg9 hb9 hs9))
   refine Vy0 (results_cell_row Tryz.results71 _ _ (w.heap.size+1) 24 _ (0,0) _ rfl hg9 hut rfl Zah) rfl ⟨some ⟨w.heap.size+1+1,0,none⟩,ns.length,rfl,?_,W8.out.grown hb9 W8.out.size (fun g e=>by injection e with e;omega)⟩
   exact OwnQ.base2 (OwnQ.keptAtP own8.out hb9 (by omega) (by omega)) (by omega) (by omega)
theorem Zce{fn:Func}{p u:Tmp}(h:fn.results=#[.cell p 24,.tmp u])(tmps:Array Value)(w:World)(g:Nat)(A:Option Addr)(n c:Nat)(root:Int)(e1:tmps.getD p undef=.pointer (some ⟨g,0,none⟩))
  (hg:w.heap[g]? =some (.cells #[.slice A n c,.int .i64 root] 24 (0,0))):(results fn tmps).run Tryz.prog w=.ok (.tuple #[.agg #[.slice A n c,.int .i64 root],tmps.getD u undef]) w:=by
 have h2:=run_loadVar_mid (P:=Tryz.prog) w g 0 24 [.slice A n c,.int .i64 root] _ (Zae (l:=[Value.slice A n c,.int .i64 root]) hg) Tryz.underlying24 rfl Zah
 have e2:tmps[p]?.getD undef=.pointer (some ⟨g,0,none⟩):=by simpa using e1
 simp only[results,h]
 simp[Sem.run_bind,Result.andThen,e2,asAddr,Sem.run_pure,h2]
theorem ZjZ{t:Tr}(h:mayT t=true):∀x∈t.ns,x.v.length≤64:=fun x hx=>by
 obtain⟨i,hi,rfl⟩:=List.getElem_of_mem hx
 have ho:=(ZaX.1 h).2.2.2.1 i hi
 cases hl:t.ns[i].leaf with
 |true=>
  have:=(Zgu ho hl).1
  unfold valB at this
  simp at this
  omega
 |false=>
  rw[(Ze0 ho hl).2.2.2.2.2.2]
  simp
theorem ZbU:Tryz.prog.built 24 []=some zTrC:=by kernel_rfl
theorem ZeP:zTrC.all (·.oneCell')=true:=by decide +kernel
theorem Yd3:Places Tryz.prog 106 zNd [(0,1),(1,32),(33,1),(34,1),(35,1)]:=by unfold Places;kernel_rfl
theorem Ye0:zNd.cells.toList=[]++([Value.bool false]++(z0.1.map bv++[Value.slice none 0 0,.int .i64 0,.int .i64 0])):=by rfl
theorem Zon(k:Dg)(v:List UInt8)(A:Option Addr)(c:Nat):Tryz.prog.built 106 [(0,.bool true),(1,.agg (k.1.map bv).toArray),(2,.slice A v.length c)]=some (ndC (leafN k v) A c).toArray:=by
 have hk:(k.1.map bv).length=32:=by rw[Vx6];exact k.2
 have hz:(z0.1.map bv).length=32:=by rw[Vx6];exact z0.2
 have c0:(Value.bool true).cells=#[Value.bool true]:=rfl
 have c1:(Value.agg (k.1.map bv).toArray).cells=(k.1.map bv).toArray:=rfl
 have c2:(Value.slice A v.length c).cells=#[Value.slice A v.length c]:=rfl
 rw[Za5 Yd3,ZaQ (off:=0) (by rw[c0];rfl) (by rw[c0];decide +kernel)]
 have e0:lay zNd.cells.toList 0 (Value.bool true).cells.toList=[Value.bool true]++(z0.1.map bv++[Value.slice none 0 0,.int .i64 0,.int .i64 0]):=by
  rw[Ye0,c0]
  exact Zbt [] [Value.bool false] _ [Value.bool true] rfl
 rw[e0,ZaQ (off:=1) (by rw[c1,Vx7,hk];rfl) (by rw[c1,Vx7,hk];simp[hz])]
 have e1:lay ([Value.bool true]++(z0.1.map bv++[Value.slice none 0 0,.int .i64 0,.int .i64 0])) 1 (Value.agg (k.1.map bv).toArray).cells.toList=([Value.bool true]++k.1.map bv)++([Value.slice none 0 0]++[.int .i64 0,.int .i64 0]):=by
  rw[c1]
  have:=Zbt [Value.bool true] (z0.1.map bv) [Value.slice none 0 0,.int .i64 0,.int .i64 0] (k.1.map bv) (by rw[hk,hz])
  simpa using this
 simp only[List.toList_toArray]
 rw[e1,ZaQ (off:=33) (by rw[c2];rfl) (by rw[c2];simp[hk])]
 have e2:lay (([Value.bool true]++k.1.map bv)++([Value.slice none 0 0]++[.int .i64 0,.int .i64 0])) 33 (Value.slice A v.length c).cells.toList=ndC (leafN k v) A c:=by
  rw[c2]
  have:=Zbt ([Value.bool true]++k.1.map bv) [Value.slice none 0 0] [.int .i64 0,.int .i64 0] [Value.slice A v.length c] rfl
  rw[show ([Value.bool true]++k.1.map bv).length=33 by rw[Vx3,hk];rfl]at this
  rw[this]
  simp[ndC,leafN]
 simp only[List.toList_toArray]
 rw[e2,Instr.fill]
def tputE(t:Tr)(v:List UInt8):Int:=if mayT t=true then (if valB v=true then (if 261844<t.ns.length then 9 else 0) else 8) else 8
def tputT(t:Tr)(k:Dg)(v:List UInt8):Tr:=if tputE t v=0 then ⟨(putN t.ns k v 256 t.root).1,(putN t.ns k v 256 t.root).2⟩ else ⟨[],0⟩
theorem Zcp{t:Tr}{k:Dg}{v:List UInt8}(h:tputE t v=0):(∃ ms,(tputT t k v).ns=t.ns++ms∧ms.length≤257)∧mayT (tputT t k v)=true∧allT (tputT t k v)=withP (allT t) k v:=by
 have hT:tputT t k v=⟨(putN t.ns k v 256 t.root).1,(putN t.ns k v 256 t.root).2⟩:=by unfold tputT;rw[if_pos h]
 unfold tputE at h
 by_cases hm:mayT t=true
 ·rw[if_pos hm]at h
  by_cases hv:valB v=true
  ·rw[if_pos hv]at h
   by_cases hf:261844<t.ns.length
   ·rw[if_pos hf]at h;cases h
   ·obtain⟨m0,m1,m2,ho,m3⟩:=ZaX.1 hm
    obtain⟨⟨ms,a1,a2⟩,a3,a4,a5,a6,a7⟩:=Zvb ho hv 256 t.root z0 (Vx8 _) m1 m2 Zfk m3 (fun i hi=>by omega)
    rw[hT]
    exact⟨⟨ms,a1,a2⟩,ZaX.2 ⟨by dsimp only;rw[a1,Vx3];omega,a4,a5,a3,a6⟩,a7⟩
  ·rw[if_neg hv]at h;cases h
 ·rw[if_neg hm]at h;cases h
theorem Yhd{t:Tr}(k:Dg)(h:mayT t=true):PG t.ns k 256 t.root:=by
 obtain⟨m0,m1,m2,ho,m3⟩:=ZaX.1 h
 exact⟨m1,m2,z0,Zfk,m3,fun i hi=>by omega⟩
theorem TrieAt.out_{w:World}{g B0:Nat}{F P:Nat→Prop}{ns:List Nd}{root:Int}(h:TrieAt w g B0 F P ns root):∃A c,w.heap[g]? =some (.cells #[.slice A ns.length c,.int .i64 root] 122 (0,0))∧
  ∀w':World,(∀ b,B0≤b→b<w.heap.size→b≠g→w'.heap[b]? =w.heap[b]?)→OwnR 106 w' B0 A c ns:=by
 obtain⟨A,c,h1,h2,h3,h4,h5,h6⟩:=h
 refine⟨A,c,h1,fun w' hk=>⟨F,h2.kept (fun a ha hl=>hk _ (h2.blk a ha).1 hl (h4 a ha)) (fun b hb hl=>hk b (h3 b hb).1 hl (h3 b hb).2.2),fun b hb=>⟨(h3 b hb).1,(h3 b hb).2.1.kept (hk b (h3 b hb).1 (h3 b hb).2.1.lt (h3 b hb).2.2)⟩⟩⟩
theorem ZvL{w w1 w2:World}{g B0:Nat}{G:Nat→Prop}{ns:List Nd}{root:Int}{A:Option Addr}{c:Nat}(ho:OwnR 106 w B0 A c ns)(hB:B0≤w.heap.size)(hw:Below w.heap.size w w1)(hg:w1.heap[g]? =some (.cells #[.slice A ns.length c,.int .i64 root] 122 (0,0)))(hge:w.heap.size≤g)
  (hw2:Below w1.heap.size w1 w2) (hG:∀b,G b→w1.heap.size≤b∧Soft w2 b):∃F,TrieAt w2 g B0 F F ns root∧∀b,G b→F b:=by
 obtain⟨F0,h1,h2⟩:=ho
 have hlt:=block_lt hg
 have o2:=(h1.bel hw).bel hw2
 refine⟨fun b=>F0 b∨G b,⟨A,c,(hw2.block g hlt).trans hg,o2.mono (fun b hb _=>.inl hb) (fun a ha hf=>?_),fun b hb=>?_,fun a ha e=>?_,Vx1 hB hge,fun b hb=>?_⟩,fun b hb=>.inr hb⟩
 ·rcases hf with hf|hf
  ·exact o2.apart a ha hf
  ·have k1:=(h1.blk a ha).2
   have k2:=(hG _ hf).1
   have k3:=hw.size
   omega
 ·rcases hb with hb|hb
  ·have hl:=(h2 b hb).2.lt
   have k3:=hw.size
   exact⟨(h2 b hb).1,((h2 b hb).2.kept (hw.block b hl)).kept (hw2.block b (by omega)),fun e=>by omega⟩
  ·have k2:=hG b hb
   have k3:=hw.size
   exact⟨by omega,k2.2,fun e=>by omega⟩
 ·have k1:=(h1.blk a ha).2
  omega
 ·have ha:∀a,A=some a→b≠a.block:=fun a ha e=>by
   have k1:=(h1.blk a ha).2
   rcases hb with hb|hb
   ·exact o2.apart a ha (by rw[← e];exact hb)
   ·have k2:=(hG b hb).1
    have k3:=hw.size
    omega
  rcases hb with hb|hb
  ·have hl:=(h2 b hb).2.lt
   have k3:=hw.size
   have k4:=hw2.size
   exact⟨by omega,fun e=>by omega,ha⟩
  ·have k2:=hG b hb
   exact⟨k2.2.lt,fun e=>by omega,ha⟩
theorem Zuw(w:World)(A:Option Addr)(n c:Nat)(root:Int)(b:Dg):
  BoxT (((w.alloc (.cells #[.slice A n c,.int .i64 root] 24)).alloc (.cells (b.1.map bv).toArray 37)).alloc (.cells zTrC 24)) w.heap.size A n c root∧
  (((w.alloc (.cells #[.slice A n c,.int .i64 root] 24)).alloc (.cells (b.1.map bv).toArray 37)).alloc (.cells zTrC 24)).rangeAt (w.heap.size+1) 0 (b.1.map bv)∧
  (((w.alloc (.cells #[.slice A n c,.int .i64 root] 24)).alloc (.cells (b.1.map bv).toArray 37)).alloc (.cells zTrC 24)).heap[w.heap.size+1+1]? =some (.cells zTrC 24)∧
  Below w.heap.size w (((w.alloc (.cells #[.slice A n c,.int .i64 root] 24)).alloc (.cells (b.1.map bv).toArray 37)).alloc (.cells zTrC 24)):=by
 obtain⟨h1,h2,h3⟩:=ZcD w A n c root b 24 37
 have h4:=Vx0 ((w.alloc (.cells #[.slice A n c,.int .i64 root] 24)).alloc (.cells (b.1.map bv).toArray 37)) (.cells zTrC 24)
 simp only[Vx2]at h4
 exact⟨h1.bel (Zad _ _),Zab (Zad _ _) h2,h4,Zag h3 (Zad _ _)⟩
theorem ZsP:(Tryz.prog.info? 122).map (fun i=>(i.zero,i.size))=some (some (.agg zTrC),zTrC.size):=by kernel_rfl
theorem Zjs{t:Tr}{k:Dg}{v:List UInt8}(h:¬tputE t v=0):tputT t k v=⟨[],0⟩:=by unfold tputT;rw[if_neg h]
theorem YiD:I64 0:=⟨by decide,by decide⟩
theorem I64.len{n:Nat}(h:n≤1000000):I64 (n:Int):=⟨by omega,by omega⟩
theorem Zdr(F:Nat→Prop)(A V:Option Addr)(c d:Nat)(ns:List Nd)(root:Int)(k:Dg)(v:List UInt8)(w:World)(hr:Row F w A ns)(hc:ns.length≤1000000)(hrv:Rd w V v)(hvd:v.length≤d)(hdm:d≤maxLen):
  Calls Tryz.prog 86 #[.agg #[.slice A ns.length c,.int .i64 root],.agg (k.1.map bv).toArray,.slice V v.length d] w fun e w'=>∃A' c',e=.returned (.tuple #[.agg #[.slice A' (tputT ⟨ns,root⟩ k v).ns.length c',.int .i64 (tputT ⟨ns,root⟩ k v).root],.int .i64 (tputE ⟨ns,root⟩ v)])∧OwnR 106 w' w.heap.size A' c' (tputT ⟨ns,root⟩ k v).ns∧Below w.heap.size w w':=by
 obtain⟨hb0,hk0,hz0,W0⟩:=Zuw w A ns.length c root k
 have hr0:=hr.bel W0
 have hv0:=hid (hrv.bel W0)
 have hu:=Tryz.underlying37
 have hut:=Tryz.underlying24
 have hiT:=hid (show (Tryz.prog.info? 24).map (·.size)=some ([Value.slice A ns.length c,.int .i64 root]).length from Zah)
 have hi:=hid (Zaz k)
 have hb0t:=hid ZbU
 obtain⟨m,hm⟩:∃m,mayT ⟨ns,root⟩=m:=⟨_,rfl⟩
 have hC:=hid (fun W hW=>ZdG F A c ns root m W hW (by omega) hm)
 obtain⟨vb,hvb⟩:∃vb,valB v=vb:=⟨_,rfl⟩
 have hV:=hid (fun W hW=>Zlq v V d vb W hW hvd hdm hvb)
 have hFu:=hid (fun W=>Zlp A ns.length c root W)
 replace hz0:=hid hz0
 cases m with
 |false=>
  have hE:tputE ⟨ns,root⟩ v=8:=by unfold tputE;rw[hm];rfl
  rw[Zjs (by rw[hE];decide),hE]
  generalize k.1.map bv=dk at *
  clear hm hvb
  go_enter Tryz.func86,Tryz.ntmps86
  go_wp2_with (first
   |(with_reducible refine Zac rfl 24 rfl zTrC Zas ?_)
   |(with_reducible refine lDr hb0.all hiT.out hut ?_))
  generalize ((w.alloc (.cells #[.slice A ns.length c,.int .i64 root] 24)).alloc (.cells dk.toArray 37)).alloc (.cells zTrC 24)=w0 at *
  refine(hC.out _ hr0).mono ?_
  rintro e w1 ⟨rfl,hb⟩
  have z1:=hid ((hb.block _ (block_lt hz0.out)).trans hz0.out)
  have W1:=hid (W0.trans (hb.mono W0.size))
  go_wp2_with (first
   |((with_reducible refine Zaf rfl 24 _ rfl zTrC [] ?_ ?_ ?_);exact hb0t.out;rfl)
   |((with_reducible refine stW 6 14 (w.heap.size+1+1) 24 zTrC ?_ ?_ ?_ ?_ ?_);exact z1.out;exact Zah;rfl;exact ZeP;intro w9 hg9 hb9 hs9))
  exact Vy0 (Zce Tryz.results86 _ _ (w.heap.size+1+1) none 0 0 0 rfl hg9) rfl ⟨none,0,rfl,OwnR.nil _ _,W1.out.grown hb9 W1.out.size (fun g e=>by injection e with e;omega)⟩
 |true=>
  cases vb with
  |false=>
   have hE:tputE ⟨ns,root⟩ v=8:=by unfold tputE;rw[hm,hvb];rfl
   rw[Zjs (by rw[hE];decide),hE]
   generalize k.1.map bv=dk at *
   clear hm hvb
   go_enter Tryz.func86,Tryz.ntmps86
   go_wp2_with (first
    |(with_reducible refine Zac rfl 24 rfl zTrC Zas ?_)
    |(with_reducible refine lDr hb0.all hiT.out hut ?_))
   generalize ((w.alloc (.cells #[.slice A ns.length c,.int .i64 root] 24)).alloc (.cells dk.toArray 37)).alloc (.cells zTrC 24)=w0 at *
   refine(hC.out _ hr0).mono ?_
   rintro e w1 ⟨rfl,hb⟩
   have z1:=hid ((hb.block _ (block_lt hz0.out)).trans hz0.out)
   have v1:=hid (hv0.out.bel hb)
   have W1:=hid (W0.trans (hb.mono W0.size))
   clear hb
   go_wp2_with fail
   refine(hV.out _ v1.out).mono ?_
   rintro e w2 ⟨rfl,hb⟩
   have z2:=hid ((hb.block _ (block_lt z1.out)).trans z1.out)
   have W2:=hid (W1.out.trans (hb.mono W1.out.size))
   go_wp2_with (first
    |((with_reducible refine Zaf rfl 24 _ rfl zTrC [] ?_ ?_ ?_);exact hb0t.out;rfl)
    |((with_reducible refine stW 6 19 (w.heap.size+1+1) 24 zTrC ?_ ?_ ?_ ?_ ?_);exact z2.out;exact Zah;rfl;exact ZeP;intro w9 hg9 hb9 hs9))
   exact Vy0 (Zce Tryz.results86 _ _ (w.heap.size+1+1) none 0 0 0 rfl hg9) rfl ⟨none,0,rfl,OwnR.nil _ _,W2.out.grown hb9 W2.out.size (fun g e=>by injection e with e;omega)⟩
  |true=>
   by_cases hfull:261844<ns.length
   ·have hE:tputE ⟨ns,root⟩ v=9:=by unfold tputE;rw[hm,hvb];dsimp only;rw[if_pos rfl,if_pos rfl,if_pos hfull]
    rw[Zjs (by rw[hE];decide),hE]
    have hfd:=Vy2 hfull
    rw[hfd]at hFu
    generalize k.1.map bv=dk at *
    clear hm hvb hfd
    go_enter Tryz.func86,Tryz.ntmps86
    go_wp2_with (first
     |(with_reducible refine Zac rfl 24 rfl zTrC Zas ?_)
     |(with_reducible refine lDr hb0.all hiT.out hut ?_))
    generalize ((w.alloc (.cells #[.slice A ns.length c,.int .i64 root] 24)).alloc (.cells dk.toArray 37)).alloc (.cells zTrC 24)=w0 at *
    refine(hC.out _ hr0).mono ?_
    rintro e w1 ⟨rfl,hb⟩
    have z1:=hid ((hb.block _ (block_lt hz0.out)).trans hz0.out)
    have v1:=hid (hv0.out.bel hb)
    have t1:=hid (hb0.bel hb)
    have W1:=hid (W0.trans (hb.mono W0.size))
    clear hb
    go_wp2_with fail
    refine(hV.out _ v1.out).mono ?_
    rintro e w2 ⟨rfl,hb⟩
    have z2:=hid ((hb.block _ (block_lt z1.out)).trans z1.out)
    have t2:=hid (t1.out.bel hb)
    have W2:=hid (W1.out.trans (hb.mono W1.out.size))
    clear hb
    go_wp2_with ((with_reducible refine lDr t2.out.all hiT.out hut ?_))
    refine(hFu.out _).mono ?_
    rintro e w3 ⟨rfl,hb⟩
    have z3:=hid ((hb.block _ (block_lt z2.out)).trans z2.out)
    have W3:=hid (W2.out.trans (hb.mono W2.out.size))
    go_wp2_with (first
     |((with_reducible refine Zaf rfl 24 _ rfl zTrC [] ?_ ?_ ?_);exact hb0t.out;rfl)
     |((with_reducible refine stW 6 22 (w.heap.size+1+1) 24 zTrC ?_ ?_ ?_ ?_ ?_);exact z3.out;exact Zah;rfl;exact ZeP;intro w9 hg9 hb9 hs9))
    exact Vy0 (Zce Tryz.results86 _ _ (w.heap.size+1+1) none 0 0 0 rfl hg9) rfl ⟨none,0,rfl,OwnR.nil _ _,W3.out.grown hb9 W3.out.size (fun g e=>by injection e with e;omega)⟩
   ·have hE:tputE ⟨ns,root⟩ v=0:=by unfold tputE;rw[hm,hvb];dsimp only;rw[if_pos rfl,if_pos rfl,if_neg hfull]
    have hTr:tputT ⟨ns,root⟩ k v=⟨(putN ns k v 256 root).1,(putN ns k v 256 root).2⟩:=by unfold tputT;rw[if_pos hE]
    have hlen:=(Zcp (k:=k) hE).1
    rw[hTr,hE]
    rw[hTr]at hlen
    have hfd:decide (261844<ns.length)=false:=Vy1 hfull
    rw[hfd]at hFu
    obtain⟨-,m1,m2,ho,m3⟩:=ZaX.1 hm
    dsimp only at m1 m2 ho m3 hlen
    have hTw:=hid (fun W hW=>ZeC F A c ns root W hW hc (fun x hx=>Vx1 (ZjZ hm x hx) (by decide)))
    have hPG:=Yhd k hm
    have hput:=hid (fun (g B0:Nat) (G:Nat→Prop) (AV:Option Addr) (cV:Nat) (W:World) T h1 h2=>(show Calls Tryz.prog 129 #[.pointer (some ⟨g,0,none⟩),.int .i64 root,.int .i64 0,.agg (ndC (leafN k v) AV cV).toArray] W (PutPost g B0 G G root W (putN ns k v 256 root)) from
     ZqJ g B0 G k v AV cV ns root ho hvb (by omega) 256 0 root W G rfl hPG T h1 h2 (fun b hb=>hb)))
    have hbl:=hid (fun A c=>Zon k v A c)
    have hbt:=hid (fun A c=>ZfI A ns.length c root)
    have hv64:v.length≤64:=by unfold valB at hvb;simp at hvb;omega
    obtain⟨rp,hrp⟩:∃rp,putN ns k v 256 root=rp:=⟨_,rfl⟩
    rw[hrp]at hput hlen ⊢
    obtain⟨ns',M⟩:=rp
    dsimp only at hput hlen ⊢
    have hrepL:=hid (fun (E:TypeId) (W:World) (B:Nat) (A2:Option Addr) (c2:Nat) (h:Own E W B A2 c2 v)=>ZnA (leafN k v) h YiD YiD)
    generalize hdk:k.1.map bv=dk at *
    clear hm hvb hrp hTr hE m1 m2 m3 hPG ho hfd hlen
    go_enter Tryz.func86,Tryz.ntmps86
    go_wp2_with (first
     |(with_reducible refine Zac rfl 24 rfl zTrC Zas ?_)
     |(with_reducible refine lDr hb0.all hiT.out hut ?_))
    generalize ((w.alloc (.cells #[.slice A ns.length c,.int .i64 root] 24)).alloc (.cells dk.toArray 37)).alloc (.cells zTrC 24)=w0 at *
    refine(hC.out _ hr0).mono ?_
    rintro e w1 ⟨rfl,hb⟩
    have z1:=hid ((hb.block _ (block_lt hz0.out)).trans hz0.out)
    have v1:=hid (hv0.out.bel hb)
    have t1:=hid (hb0.bel hb)
    have r1:=hid (hr0.bel hb)
    have k1:=hid (Zab hb hk0)
    have W1:=hid (W0.trans (hb.mono W0.size))
    clear hb hb0 hr0 hk0 hv0 hz0 W0
    go_wp2_with fail
    refine(hV.out _ v1.out).mono ?_
    rintro e w2 ⟨rfl,hb⟩
    have z2:=hid ((hb.block _ (block_lt z1.out)).trans z1.out)
    have v2:=hid (v1.out.bel hb)
    have t2:=hid (t1.out.bel hb)
    have r2:=hid (r1.out.bel hb)
    have k2:=hid (Zab hb k1.out)
    have W2:=hid (W1.out.trans (hb.mono W1.out.size))
    clear hb z1 v1 t1 r1 k1 W1
    go_wp2_with ((with_reducible refine lDr t2.out.all hiT.out hut ?_))
    refine(hFu.out _).mono ?_
    rintro e w3 ⟨rfl,hb⟩
    have z3:=hid ((hb.block _ (block_lt z2.out)).trans z2.out)
    have v3:=hid (v2.out.bel hb)
    have t3:=hid (t2.out.bel hb)
    have r3:=hid (r2.out.bel hb)
    have k3:=hid (Zab hb k2.out)
    have W3:=hid (W2.out.trans (hb.mono W2.out.size))
    clear hb z2 v2 t2 r2 k2 W2
    go_wp2_with ((with_reducible refine lDr t3.out.all hiT.out hut ?_))
    refine(hTw.out _ r3.out).mono ?_
    rintro e w5 ⟨A5,c5,rfl,ho5,hb⟩
    have z5:=hid ((hb.block _ (block_lt z3.out)).trans z3.out)
    have v5:=hid (v3.out.bel hb)
    have k5:=hid (Zab hb k3.out)
    have W5:=hid (W3.out.trans (hb.mono W3.out.size))
    have o5:=hid ho5
    have s5:=hid hb.size
    have lt3:=hid (block_lt z3.out)
    have e5:=hid (Vx0 w5 (.cells zTrC 122))
    clear hb z3 v3 t3 r3 k3 ho5
    go_wp2_with (first
     |((with_reducible refine Zaf rfl 122 _ rfl #[Value.slice A5 ns.length c5,.int .i64 root] [(0,.agg #[.slice A5 ns.length c5,.int .i64 root])] ?_ ?_ ?_);exact hbt.out _ _;rfl)
     |(with_reducible refine Zac rfl 122 rfl zTrC ZsP ?_)
     |((with_reducible refine stW 9 25 _ 122 zTrC ?_ ?_ ?_ ?_ ?_);exact e5.out;exact ZbA;rfl;exact Zat A5 ns.length c5 root;intro w6 hg6 hb6 hs6;have X6:=hid (Zan rfl hb6);have g6:=hid hg6;clear hg6 hb6 hs6))
    have k6:=hid (Zab X6.out k5.out)
    have z6:=hid ((X6.out.block _ (block_lt z5.out)).trans z5.out)
    have v6:=hid (v5.out.bel X6.out)
    have W6:=hid (W5.out.trans (X6.out.mono W5.out.size))
    have c2:=Zaq g6.out 1
    simp only[List.getElem?_toArray,List.getElem?_cons_zero,List.getElem?_cons_succ]at c2
    have lt6:=hid (block_lt g6.out)
    have hB0:=hid (Vx1 (Vx1 s5.out X6.out.size) (Vx8 _))
    clear k5 z5 v5 e5 hTw hFu hV hC
    generalize hgg:w5.heap.size=g at *
    have hgg:=hid hgg
    focus
     refine wp_region_noPanic ?_
     refine wp_region_held_drew (S:=fun w'=>w'.rangeAt (w.heap.size+1) 0 dk) (by kernel_rfl) ?_ (fun hHeld=>?_)
     ·exact k6.out
     refine' tkW 0 1 ?_
     refine' tkM 3 rfl (fun _ h=>h) hu hi.out ?_
     refine' tkP 4 rfl ?_
     simp only[sQ]
     refine Ynx 2 5 rfl rfl (fun K hK=>?_) (fun K hK=>?_)
     focus
      go_simp
      refine hK.out _ _ (hHeld) fun hHeld=>?_
      clear hK K
      try simp only[sQ]
      refine rdH 5 rfl fun K hK=>?_
      go_simp
      refine(Zbs V v.length d v _ (v6.out.bel (Zao w6)) rfl (by omega)).mono ?_
      rintro e7 w7 ⟨A7,c7,rfl,ho7,hB⟩
      try replace c2:=(hB.cell (p:=⟨g,1,none⟩) lt6.out).trans c2
      have o7:=hid ho7
      have B7:=hid (Zdn hB)
      go_wp2_with fail
      refine hK.out _ _ (Zab hB hHeld) fun hHeld=>?_
      clear hK K
      try simp only[sQ]
      refine' tkH 6 rfl (Yb1 (by rfl) _ _ rfl _ _ (hbl.out A7 c7) rfl) ?_
      simp only[sQ]
     rotate_left
     focus
      go_simp
      refine(Zbs V v.length d v _ (v6.out.bel (Zao w6)) rfl (by omega)).mono ?_
      rintro e7 w7 ⟨A7,c7,rfl,ho7,hB⟩
      try replace c2:=(hB.cell (p:=⟨g,1,none⟩) lt6.out).trans c2
      have o7:=hid ho7
      have B7:=hid (Zdn hB)
      go_wp2_with fail
      refine hK.out _ _ (Zab hB hHeld) fun hHeld=>?_
      clear hK K
      try simp only[sQ]
      refine' tkH 6 rfl (Yb1 (by rfl) _ _ rfl _ _ (hbl.out A7 c7) rfl) ?_
      simp only[sQ]
      refine rdH 2 rfl fun K hK=>?_
      go_simp
      refine hK.out _ _ (hHeld) fun hHeld=>?_
      clear hK K
      try simp only[sQ]
     all_goals
      refine rdH 7 rfl fun K hK=>?_
      go_simp
      obtain⟨G,T7,hGF⟩:=ZvL (g:=g) (w:=w5) (w1:=w6) (G:=fun b=>∃a,A7=some a∧b=a.block) o5.out (by rw[hgg.out];exact s5.out) (by rw[hgg.out];exact X6.out) g6.out (by rw[hgg.out];exact Vx8 _) B7.out (fun b hb=>by obtain⟨a,ha,rfl⟩:=hb;exact⟨(o7.out.blk a ha).1,(o7.out.soft a ha).2⟩)
      refine(hput.out g _ G A7 c7 _ T7 (by have:=T7.lt;omega) (Enc.mono (hrepL.out _ _ _ A7 c7 o7.out) (fun b hb _=>hGF b hb))).mono ?_
      rintro r w8 ⟨rfl,T8,S8,B8⟩
      dsimp only at T8
      obtain⟨A8,c8,h8,out8⟩:=T8.out_
      have f8:=Zap h8 1
      have d8:=Zaq h8 1
      simp only[List.getElem?_toArray,List.getElem?_cons_zero,List.getElem?_cons_succ]at d8
      replace h8:=hid h8
      replace out8:=hid out8
      replace B8:=hid B8
      have lt8:=hid T8.lt
      clear T8 S8 T7
      go_wp2_with fail
      refine hK.out _ _ (Zak hHeld (fun _=>B8.out.block _ (by have:=lt3.out;omega))) fun hHeld=>?_
      clear hK K
      try simp only[sQ]
      refine' tkW 8 9 ?_
      simp only[sQ]
      refine rdH 10 rfl fun K hK=>?_
      go_simp
      refine hK.out _ _ (Zak hHeld (fun _=>Vy3 _ _ _ _ (by have:=lt3.out;have:=lt8.out.2;show w.heap.size+1≠g;omega))) fun hHeld=>?_
      clear hK K
      try simp only[sQ]
      refine dnN ?_
      have g9:=hid (ZaD h8.out 1 (.int .i64 M))
      rw[show (#[Value.slice A8 ns'.length c8,.int .i64 root]:Array Value).setIfInBounds 1 (.int .i64 M)=#[.slice A8 ns'.length c8,.int .i64 M] from rfl]at g9
      have W8:=hid ((W6.out.trans (B7.out.mono W6.out.size)).trans (B8.out.mono (by have:=W6.out.size;have:=lt3.out;omega)))
      have z8:=hid ((B8.out.block (w.heap.size+1+1) lt3.out).trans ((B7.out.block _ (block_lt z6.out)).trans z6.out))
      have z9:=hid ((Vy3 w8 ⟨g,1,none⟩ (.int .i64 M) (w.heap.size+1+1) (by have:=lt3.out;have:=lt8.out.2;show w.heap.size+1+1≠g;omega)).trans z8.out)
      have W9:=hid (W8.out.setCell (p:=⟨g,1,none⟩) (by have:=lt8.out.2;have:=lt3.out;show w.heap.size≤g;omega) (.int .i64 M))
      have hi9:=hid (show (Tryz.prog.info? 24).map (·.size)=some ([Value.slice A8 ns'.length c8,.int .i64 M]).length from Zah)
      have r9:=hid (Zae (l:=[Value.slice A8 ns'.length c8,.int .i64 M]) g9.out)
      go_wp2_with (first
       |(with_reducible refine lDr r9.out hi9.out hut ?_)
       |((with_reducible refine stW 6 37 (w.heap.size+1+1) 24 zTrC ?_ ?_ ?_ ?_ ?_);exact z9.out;exact Zah;rfl;exact Zat A8 ns'.length c8 M;intro w10 hg9 hb9 hs9))
      refine Vy0 (Zce Tryz.results86 _ _ (w.heap.size+1+1) A8 ns'.length c8 M rfl hg9) rfl ⟨A8,c8,rfl,?_,W9.out.grown hb9 W9.out.size (fun g e=>by injection e with e;omega)⟩
      exact OwnR.base (out8.out w10 (fun b hb1 hb2 hb3=>(hb9.block b (by rw[show (w8.setCell ⟨g,1,none⟩ (.int .i64 M)).heap.size=w8.heap.size by simp[World.setCell]];exact hb2) (fun e=>by injection e with e;have:=lt3.out;omega)).trans (Vy3 _ _ _ b hb3))) (by have:=lt3.out;omega)
end Go.Proofs.YtnnclggeifnomaaGreatDoor
