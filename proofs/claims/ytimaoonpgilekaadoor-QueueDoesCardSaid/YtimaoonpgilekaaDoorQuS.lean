import Derived.Test.YtimaoonpgilekaaDoorQuR
import Derived.Test.YtimaoonpgilekaaDoorQuC
set_option linter.all false
namespace Go.Proofs.YtimaoonpgilekaaDoor
open Go.RowKit Go.Shelf
set_option maxRecDepth 100000
attribute [local go_sem] Oper.semAt_some
def LoopQ(w:World)(o B0:Nat)(pre:List XI)(W:World):Prop:=
 (∃ A' c',Boxed W o 24 (.slice A' (pre.map fun x=>x.1).length c')∧OwnR 33 W B0 A' c' (pre.map fun x=>x.1))∧Below w.heap.size w W∧B0≤W.heap.size
theorem YpT(w:World)(o B0:Nat)(hB:w.heap.size≤B0):OwnFrom B0 (LoopQ w o B0):=by
 rintro pre X Y row ⟨⟨A',c',h2,h3⟩,h6,h7⟩ hg hr
 have hr2:=fun r e=>(hr r e).2
 exact⟨⟨A',c',h2.kept hg (Zax h2 hr2),Zk2 h3 hg hr2⟩,h6.grown hg (h6.size) (fun k e=>Vx1 hB (hr k e).1),Vx1 h7 hg.size⟩
theorem Yqx{n₀:Nat}{w:World}(hn:n₀≤w.heap.size)(W:World)(l:Nat)(o o':Obj)(hl:w.heap.size≤l)(h:W.heap[l]? =some o)(hc:o.isCells=false)(hk:o.isWalk=false):KeepQ n₀ W (W.putObj l o'):=
 ⟨belowK_b hn W l o o' hl h hc hk,fun b cs t fr hb _=>World.putObj_heap_other (fun e=>by subst e;rw[hb]at h;injection h with h;subst h;cases hc)⟩
theorem Ypy{F:Fence}{n:Nat}{ops:Array Oper}{rest:List Oper}{o:Oper}{a:Act}{w:World}{Q:Exit→Act→World→Prop}(hg0:o.guard=none)(y:Operand)(ho:o.op=.buildSlice 24 1 #[(0,y)])(cs:List Value)(hy:(a.eval y).cells=cs.toArray)(hl:cs.length=Enc.size Tx)
  (h:∀w',w'=w.alloc (.cells cs.toArray 33)→wpListIn F n Tryd.prog ops Q rest (a.put o.dst (.slice (some ⟨w.heap.size,0,none⟩) 1 1)) w'):wpListIn F n Tryd.prog ops Q (o::rest) a w:=by
 refine wpListIn_step fun K hK=>?_
 exact ZaH slotTxQ (by decide) (by simp[Region.wanted,hg0]) y ho cs hy hl fun w' e=>hK _ _ (h w' e)
theorem Ypx{F:Fence}{n:Nat}{ops:Array Oper}{rest:List Oper}{o:Oper}{a:Act}{w:World}{Q:Exit→Act→World→Prop}(hg0:o.guard=none)(s x:Operand)
  (hop:o.op=.call { callee:=.builtin .append,args:=#[s,x],argTypes:=#[24,24] })
  (B0 B:Nat) (A A2:Option Addr) (m k c c2:Nat) (xs ys:List Tx) (F2:Nat→Prop) (hs:a.eval s=.slice A m c) (hx:a.eval x=.slice A2 k c2) (hn:m=xs.length) (hm:k=ys.length)
  (ho:OwnQ 33 w B0 B A c xs) (hr:Src F2 w A2 ys) (hF:∀b,F2 b→B0≤b∧Soft w b∧∀a,A=some a→b≠a.block) (hlen:(xs.length+ys.length) * (120+1)≤140737488355328) (hB:B≤w.heap.size)
  (hK:∀A' c' w',OwnQ 33 w' B0 B A' c' (xs++ys)→Below B w w'→w.grownBy w' (A.map (·.block))→wpListIn F n Tryd.prog ops Q rest (a.put o.dst (.slice A' (xs++ys).length c')) w'):wpListIn F n Tryd.prog ops Q (o::rest) a w:=by
 refine wpListIn_step fun K hK2=>?_
 exact ZaN slotTxQ (by simp[Region.wanted,hg0]) s x hop B0 B A A2 m k c c2 xs ys F2 hs hx hn hm ho hr hF hlen hB fun A' c' w' h1 h2 h3=>hK2 _ _ (hK A' c' w' h1 h2 h3)
def tmpsQ(cl:List Value)(n:Nat)(s o p:Nat)(A:Option Addr)(m c:Nat)(x:Tx)(b6:Nat):Array Value:=
 #[.agg cl.toArray,.int .u64 (n:Int),.pointer (some ⟨s,0,none⟩),undef,.slice none 0 0,.int .i64 0,.int .i64 0,.pointer (some ⟨o,0,none⟩),.pointer (some ⟨b6,0,none⟩),.agg cl.toArray,.int .i64 0,.int .i64 0,.bool false,undef,.agg cl.toArray,
  .agg (soC A m c).toArray,.int .u64 (n:Int),.func (.func 52) #[] #[.pointer (some ⟨p,0,none⟩),.pointer (some ⟨p+1,0,none⟩)],.agg (txC x).toArray,undef,undef,undef,undef,undef]
def AxQ(cl:List Value)(n:Nat)(s o p:Nat)(A:Option Addr)(m c:Nat)(x:Tx)(a:Act)(W:World):Prop:=∃b6,W.heap[b6]? =some (.cells (txC x).toArray 33 (0,0))∧a={ tmps:=tmpsQ cl n s o p A m c x b6,defers:=[] }
theorem Yp9(cl:List Value)(n:Nat)(s o p:Nat)(A:Option Addr)(m c B:Nat)(x:Tx)(a:Act):OwnFrom B (fun (_:Unit) W=>AxQ cl n s o p A m c x a W):=by
 rintro _ X Y row ⟨b6,h1,h2⟩ hg hr
 exact⟨b6,(hg.block _ (block_lt h1) (Zax h1 fun r e=>(hr r e).2)).trans h1,h2⟩
theorem Yp6{w:World}{E:TypeId}(x:Tx)(hx:x.ok):Row (fun _=>True) (w.alloc (.cells (txC x).toArray E)) (some ⟨w.heap.size,0,none⟩) [x]:=by
 intro _
 refine⟨w.heap.size,0,rfl,trivial,by simp,fun j y hy=>?_⟩
 rcases j with _|j
 ·simp at hy;subst hy
  refine⟨txC x,YoS x hx,?_⟩
  rw[Nat.zero_mul,Nat.add_zero]
  exact Zae (Vx0 w _)
 ·simp at hy
theorem YpL{l:Ln}{n:Nat}(h:mayL l=false):readyL l n=[]∧checkL l=8:=by
 unfold readyL checkL
 rw[if_neg (by rw[h];simp),if_neg (by rw[h];simp)];exact⟨rfl,rfl⟩
theorem YpH{l:Ln}{n:Nat}(h:mayL l=true):readyL l n=runF (l.xs.drop (cntN l.xs n)) n∧checkL l=0:=by
 unfold readyL checkL
 rw[if_pos h,if_pos h];exact⟨rfl,rfl⟩
set_option maxHeartbeats 4000000 in
theorem Ypg(F:Nat→Prop)(d:Dg)(A:Option Addr)(c n:Nat)(xs:List Tx)(w:World)(hr:Row F w A xs)(hc:xs.length≤1000000)(hcc:xs.length≤c)(hn:n<18446744073709551616)(hT:Tab w):
  Calls Tryd.prog 11 #[.agg (lnC d A xs.length c).toArray,.int .u64 (n:Int)] w fun e w'=>∃A' c',e=.returned (.tuple #[.slice A' (readyL ⟨d,xs⟩ n).length c',.int .i64 (checkL ⟨d,xs⟩)])∧OwnR 33 w' w.heap.size A' c' (readyL ⟨d,xs⟩ n)∧Below w.heap.size w w':=by
 have hul:=Tryd.underlying26
 have hux:=Tryd.underlying33
 have b1:=Vx0 w (.cells (lnC d A xs.length c).toArray 26)
 have X1:=Zad w (.cells (lnC d A xs.length c).toArray 26)
 have R1:=hid (hr.bel X1)
 have T1:=hid (hT.bel X1 hT.low)
 have jl:=hid (YoU d A xs.length c)
 have hC:=hid (fun W (h:Row F W A xs) hW=>Ypb F d A c xs W h hc hW)
 have hBy:=hid (fun W=>Ypm d A xs.length c W)
 have hRun:=hid (fun W=>YpI A xs.length c n W)
 obtain⟨m,hm⟩:∃m,mayL ⟨d,xs⟩=m:=⟨_,rfl⟩
 have hck:checkL ⟨d,xs⟩=if m=true then 0 else 8:=by unfold checkL;rw[hm]
 obtain⟨RL,hRL⟩:∃r,readyL ⟨d,xs⟩ n=r:=⟨_,rfl⟩
 rw[hck]at hC ⊢
 rw[hRL]
 generalize lnC d A xs.length c=cl at *
 refine(callsIn_wide (n:=4)).1 ?_
 refine callsIn_of_wp_marks Tryd.func11 rfl trivial ?_ rfl
 simp only[Tryd.ntmps11,Vx7,List.length_cons,List.length_nil,Nat.reduceAdd,Nat.reduceSub,Array.replicate_succ,Array.replicate_zero,List.push_toArray,List.append_toArray,List.nil_append,List.cons_append]
 gi_wp2_with (((with_reducible refine ZaW rfl 26 (.tmp 2) rfl w.heap.size rfl 26 cl.toArray (0,0) _ ?_ hul rfl ?_ ?_);exact b1;exact jl.out))
 refine⟨trivial,callsIn_wide.2 ((hC.out _ R1.out T1.out).mono ?_)⟩
 rintro e W1 ⟨rfl,hb1⟩
 have Y1:=X1.trans (hb1.mono X1.size)
 have b2:=(hb1.block _ (block_lt b1)).trans b1
 cases m with
 |false=>
  have e1:=hRL.symm.trans (YpL (n:=n) hm).1
  subst e1
  gi_wp2
  exact⟨_,by kernel_rfl,none,0,rfl,OwnQ.nil _ _ _,Y1⟩
 |true=>
  have e1:RL=runF (xs.drop (cntN xs n)) n:=hRL.symm.trans (YpH (n:=n) hm).1
  have hso:soB xs=true:=(Yn2 hm).2.1
  have h256:xs.length≤256:=(Yn2 hm).1
  replace e1:=hid e1
  clear hRL hck hm
  gi_wp2_with (((with_reducible refine ZaW rfl 26 (.tmp 2) rfl w.heap.size rfl 26 cl.toArray (0,0) _ ?_ hul rfl ?_ ?_);exact((Zad W1 _).block _ (block_lt b2)).trans b2;exact jl.out))
  refine⟨trivial,callsIn_wide.2 ((hBy.out _).mono ?_)⟩
  rintro e W2 ⟨rfl,hb2⟩
  gi_wp2
  refine⟨trivial,callsIn_wide.2 ((hRun.out _).mono ?_)⟩
  rintro e W0 ⟨rfl,hW0⟩
  have Y2:=Y1.trans (((Zad W1 (.cells #[.slice none 0 0] 24)).trans (hb2.mono (by simp))).mono Y1.size)
  have bo:Boxed W0 W1.heap.size 24 (.slice none 0 0):=by
   rw[hW0]
   exact(((Zaw (Boxed.new W1 24 (.slice none 0 0)) hb2 (by simp))).alloc _).alloc _
  have bp:W0.heap[W2.heap.size]? =some (.cells (soC A xs.length c).toArray 61 (0,0)):=by
   rw[hW0]
   have h:=Vx0 W2 (.cells (soC A xs.length c).toArray 61)
   exact((Zad _ _).block _ (block_lt h)).trans h
  have bq:W0.heap[W2.heap.size+1]? =some (.cells #[.int .u64 (n:Int)] 31 (0,0)):=by
   rw[hW0]
   have h:=Vx0 (W2.alloc (.cells (soC A xs.length c).toArray 61)) (.cells #[.int .u64 (n:Int)] 31)
   rw[Vx2]at h
   exact h
  have Y0:Below w.heap.size w W0:=by rw[hW0];exact(Y2.alloc Y2.size _).alloc (by have:=Y2.size;simp;omega) _
  have ho1:w.heap.size≤W1.heap.size:=Y1.size
  have ho0:W1.heap.size<W0.heap.size:=bo.lt
  clear hW0 b1 b2 X1 hb1 hb2 hC hBy hRun R1 T1
  gi_wp2
  refine wpIn_rangeFunc_ownH (F:=Fence.wide) rfl (by omega) (gf:=52) (lb:=#[.pointer (some ⟨W2.heap.size,0,none⟩),.pointer (some ⟨W2.heap.size+1,0,none⟩)]) rfl trivial (enters_of Tryd.func52 (by kernel_rfl) rfl)
   (encs:=encX) (Kp:=KeepQ w.heap.size) (S:=fun ys=>ys.map (·.1)=runF (xs.drop (cntN xs n)) n) (Sp:=fun _=>True) (N:=1000001) (w0:=W0)
   (fun l J Jx W hW hJ hJx hY h0=>YqC 3 (by omega) l w F A c n xs hso hr hc hcc hn J Jx (fun pre X Y hx hb=>hJ pre X Y none hx (ZbR hb) (fun r e=>by cases e)) (fun m pre x X hx hl=>YieldAt.anyDepth rfl m (hY pre x X hx hl)) W2.heap.size (W2.heap.size+1) W
    (Y0.trans (hW.mono Y0.size)) ((hW.block _ (block_lt bp)).trans bp) ((hW.block _ (block_lt bq)).trans bq) h0)
   (fun h k=>h.trans k) (Yqx Y0.size) (Below.refl _ _) (fun _=>rfl)
   (LoopQ w W1.heap.size W0.heap.size) (fun _ _ _=>False) (YpT w _ _ Y0.size) (fun _ _ _ _ _ h _ _=>h) ⟨⟨none,0,bo,OwnQ.nil _ _ _⟩,Y0,Vx8 _⟩
   (fun x=>AxQ cl n w.heap.size W1.heap.size W2.heap.size A xs.length c x.1) (fun x a'=>Yp9 _ _ _ _ _ _ _ _ _ _ _) ?assign ?body ?done ?stop
  case stop=>exact fun D cd pre W hD hS h=>h.elim
  case assign=>
   rintro l pre ⟨y,hy⟩ W K ⟨⟨A',c',hv,hown⟩,hB,hB0⟩ hK
   dsimp only[encX]
   have h6:=Vx0 W (.cells zTxC 33)
   have ay:=hid (Zb2 y)
   have zy:=hid (ZcS y)
   have oy:=hid (Zdw y)
   generalize hdy:txC y=dy at *
   have hz:∀(t:Array Value) (v:Value),((#[18]:Array Tmp).zip #[v]).foldl (fun t (p,v)=>t.setIfInBounds p v) t=t.setIfInBounds 18 v:=fun t v=>by simp
   rw[hz]
   simp only[List.setIfInBounds_toArray,List.set_cons_succ,List.set_cons_zero]
   gi_wp2_with (first
    |(with_reducible refine Zcu rfl 33 rfl zTxC Zbv ?_)
    |(refine ZbF rfl 33 (.tmp 8) (.tmp 18) rfl W.heap.size dy.toArray rfl rfl 33 zTxC ?_ ?_ ?_ ?_ ?_;exact h6;exact ay.out;exact zy.out;exact oy.out;intro w6 g6 hg6 hs6))
   have hb6:Below W.heap.size W w6:=Zan rfl hg6
   refine hK _ _ ⟨hb6.size,fun k o _ hk _=>(hb6.block _ (Array.getElem?_eq_some_iff.1 hk).1).trans hk⟩ (KeepQ.bel hb6 hB.size) ⟨⟨A',c',Zaw hv hb6 hv.lt,hown.bel hb6⟩,hB.trans (hb6.mono hB.size),Vx1 hB0 hb6.size⟩ ⟨W.heap.size,by rw[hdy];exact g6,by unfold tmpsQ;rw[hdy]⟩
  case body=>
   rintro l pre ⟨y,hy⟩ a' W hl hrec ⟨⟨A',c',hv,ho⟩,hB,hB0⟩ ⟨b6,h6,rfl⟩ hlt
   dsimp only at h6
   have hlm:(pre.map fun x=>x.1).length≤1000001:=by rw[Vx6];omega
   have hfin:Hid ((pre++[⟨y,hy⟩]:List XI).map (fun x=>x.1)=(pre.map fun x=>x.1)++[y]):=hid (by rw[List.map_append];rfl)
   generalize (pre.map fun x=>x.1)=ps at *
   have FIN:∀(w5:World) (X5:Below W.heap.size W w5) (A6:Option Addr) (c6:Nat) (w6:World) (ho6:OwnR 33 w6 W0.heap.size A6 c6 (ps++[y])) (hb6:Below W0.heap.size w5 w6) (hg6:w5.grownBy w6 (A'.map (·.block)))
     (hv6:Boxed w6 W1.heap.size 24 (.slice A' ps.length c')),
     KeepsFrom W0.heap.size W (w6.setCell ⟨W1.heap.size,0,none⟩ (.slice A6 (ps++[y]).length c6))∧KeepQ w.heap.size W (w6.setCell ⟨W1.heap.size,0,none⟩ (.slice A6 (ps++[y]).length c6))∧
      LoopQ w W1.heap.size W0.heap.size (pre++[⟨y,hy⟩]) (w6.setCell ⟨W1.heap.size,0,none⟩ (.slice A6 (ps++[y]).length c6)):=by
    intro w5 X5 A6 c6 w6 ho6 hb6 hg6 hv6
    have hcel:∀k,some k=A'.map (·.block)→∃cur,W.heap[k]? =some (.cells cur 33 (0,0)):=fun k hk=>by
     obtain⟨G,k1,k2⟩:=ho
     rcases A' with _|a
     ·cases hk
     ·obtain⟨cur,e,hc⟩:=k1.form a rfl
      simp only[Option.map_some,Option.some.injEq]at hk
      exact⟨cur,hk▸hc⟩
    have hsame:∀(k:Nat) (ob:Obj),W.heap[k]? =some ob→some k≠A'.map (·.block)→w6.heap[k]? =some ob:=fun k ob hk hne=>by
     have hkl:=(Array.getElem?_eq_some_iff.1 hk).1
     exact(hg6.block k (Vx4 hkl X5.size) hne).trans ((X5.block k hkl).trans hk)
    have hW6:Below w.heap.size W w6:=(X5.mono hB.size).trans (hb6.mono Y0.size)
    refine⟨⟨Vx1 hW6.size (by simp[World.setCell]),fun k ob _ hk hc=>?_⟩,⟨hW6.setCell (p:=⟨W1.heap.size,0,none⟩) ho1 _,fun b cs t fr hb ht=>?_⟩,⟨A6,c6,?_,?_⟩,?_,?_⟩
    ·refine(Vy3 _ _ _ _ (fun e=>?_)).trans (hsame k ob hk fun e=>?_)
     ·subst e
      rw[hv]at hk
      injection hk with hk
      subst hk
      cases hc
     ·obtain⟨cur,h⟩:=hcel k e
      rw[h]at hk
      injection hk with hk
      subst hk
      cases hc
    ·refine((Vy3 _ _ _ _ (fun e=>?_)).trans (hsame b _ hb fun e=>?_)).trans hb.symm
     ·subst e
      rw[hv]at hb
      injection hb with hb
      injection hb with _ hb _
      subst hb
      rcases ht with ht|ht<;>cases ht
     ·obtain⟨cur,h⟩:=hcel b e
      rw[h]at hb
      injection hb with hb
      injection hb with _ hb _
      subst hb
      rcases ht with ht|ht<;>cases ht
    ·rw[hfin.out]
     exact hv6.set _
    ·rw[hfin.out]
     exact ho6.setG (by omega) (by omega) _
    ·exact(hB.trans hW6).setCell (p:=⟨W1.heap.size,0,none⟩) ho1 _
    ·exact Vx1 hB0 (Vx1 X5.size (Vx1 hb6.size (by simp[World.setCell])))
   have hcv:=hv.cell
   have ay:=hid (Zb2 y)
   have X5:=hid (Zad W (.cells (txC y).toArray 33))
   have src5:=hid (YoW (G:=fun _=>False) (Yp6 (w:=W) (E:=33) y hy))
   have hv5:=hid (Zaw hv X5.out hv.lt)
   have ho5:=hid (ho.bel X5.out)
   have ly:=hid (ZgR y)
   replace FIN:=hid FIN
   replace hfin:=trivial
   unfold tmpsQ
   gi_wp2_with (first
    |((with_reducible refine ZaW rfl 33 (.tmp 8) rfl b6 rfl 33 (txC y).toArray (0,0) _ ?_ hux rfl ?_ ?_);exact h6;exact ay.out)
    |(refine Ypy rfl (.tmp 20) rfl (txC y) rfl ly.out ?_;rintro w5 rfl)
    |(refine Ypx rfl (.tmp 19) (.tmp 21) rfl W0.heap.size W0.heap.size A' (some ⟨W.heap.size,0,none⟩) ps.length 1 c' 1 ps [y] (fun _=>False) rfl rfl rfl rfl ho5.out src5.out (fun b hb=>hb.elim) (by simp only[List.length_cons,List.length_nil];omega) (Vx1 hB0 X5.out.size) ?_;intro A6 c6 w6 ho6 hb6 hg6;have hv6:=Zaw hv5.out hb6 ho0;have hc6:=hv6.cell;have hf6:=hv6.frozen;have FI:=hid (FIN.out _ X5.out A6 c6 w6 ho6 hb6 hg6 hv6)))
   have F9:=FI.out
   rw[show (ps++[y]).length=ps.length+1 by simp]at F9
   exact F9
  case done=>
   rintro D ys W hD hS ⟨⟨A',c',hv,hown⟩,hB,hB0⟩ hK
   rw[hS,←e1.out]at hv hown
   have hcv:=hv.cell
   have hD2:=fun (r:Nat) (e:some D=some r)=>(⟨_,by cases e;exact hK,rfl⟩:∃o:Obj,W.heap[r]? =some o∧o.isCells=false)
   gi_wp2
   refine⟨by simp,.inl ⟨_,_,rfl,run_takeDeferred hK,?_⟩⟩
   exact⟨_,by kernel_rfl,A',c',rfl,OwnR.base (Zk2 hown (grownBy_putObj' W D _) hD2) Y0.size,hB.trans (belowK_b (w:=w) (Vx8 _) W D _ _ (Vx1 Y0.size hD) hK rfl rfl)⟩
end Go.Proofs.YtimaoonpgilekaaDoor
