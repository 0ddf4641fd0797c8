import Derived.Test.YtomhoehlgagiiaaGreatDoorPuQ
import Derived.Test.YtomhoehlgagiiaaGreatDoorRef11a
set_option maxRecDepth 100000
set_option linter.all false
set_option maxHeartbeats 8000000
namespace Go.Proofs.YtomhoehlgagiiaaGreatDoor
open Go.RowKit
theorem ZkQ{ps:List Pr}(h:heldP ps=true):∀p∈ps,p.v.length≤1000000:=fun p hp=>by
 rw[Zph (Zc5.1 h p hp)];decide
theorem YfO{w:World}{g:Nat}{a:Ac}{t:TypeId}(h:w.heap[g]? =some (.cells (acC a).toArray t (0,0)))(m:Nat):(w.setCell ⟨g,0,none⟩ (.int .u64 (m:Int))).heap[g]? =some (.cells (acC ⟨m,a.b⟩).toArray t (0,0)):=by
 rw[ZaD h];rfl
theorem Zyc{w:World}{g:Nat}{a:Ac}{t:TypeId}(h:w.heap[g]? =some (.cells (acC a).toArray t (0,0)))(m:Nat):(w.setCell ⟨g,1,none⟩ (.int .u64 (m:Int))).heap[g]? =some (.cells (acC ⟨a.n,m⟩).toArray t (0,0)):=by
 rw[ZaD h];rfl
theorem YfU(w:World){g B:Nat}(i:Nat)(u:Value)(h:B≤g):Below B w (w.setCell ⟨g,i,none⟩ u):=(Below.refl B w).setCell (p:=⟨g,i,none⟩) h u
def moreR(ps:List Pr)(k:Dg)(m:Nat):List Pr:=if moreB ps k m=true then moreL ps k m else []
def MorePost(ps:List Pr)(k:Dg)(m:Nat)(w:World)(e:Ending)(w':World):Prop:=∃A' c',e=.returned (.tuple #[.slice A' (moreR ps k m).length c',.bool (moreB ps k m)])∧OwnR 84 w' w.heap.size A' c' (moreR ps k m)∧Below w.heap.size w w'
theorem Zmy(F:Nat→Prop)(A:Option Addr)(c n:Nat)(ps:List Pr)(k:Dg)(m:Nat)(w:World)(hm:m<18446744073709551616)(hr:Row F w A ps)(hn:n=ps.length)(hc:ps.length≤1000000)(hs:St ps):
  Calls Tryz.prog 202 #[.slice A n c,.agg (k.1.map bv).toArray,.int .u64 (m:Int)] w (MorePost ps k m w):=by
 subst hn
 have hu:=Tryz.underlying26
 have hua:=Tryz.underlying118
 have h0:=Vx0 w (.cells (k.1.map bv).toArray 26)
 have W0:=hid (Zad w (.cells (k.1.map bv).toArray 26))
 have K0:=hid (Zae h0)
 have r0:=hid (hr.bel W0.out)
 have i1:=hid (ZaF k)
 have hI:=fun W hW=>Zo8 F A c ps.length ps k W hW rfl hc hs.1
 have hok:=ZhV ps k
 obtain⟨a,ha⟩:∃a,inA ps k=a:=⟨_,rfl⟩
 have hBq:moreB ps k m=decide (a.b+m<18446744073709551616):=by unfold moreB;rw[ha]
 have hL:moreL ps k m=setP ps k ⟨a.n,a.b+m⟩:=by unfold moreL;rw[ha]
 have hRq:moreR ps k m=if moreB ps k m=true then moreL ps k m else []:=rfl
 rw[ha]at hI hok
 unfold MorePost
 rw[hBq,hL]at hRq
 rw[hBq,hRq]
 have hab:=hok.2
 have nA:=ZbW a
 have w1:IntKind.u64.wrap (18446744073709551615-(a.b:Int))=18446744073709551615-(a.b:Int):=by rw[IntKind.wrap_u64];omega
 replace hI:=hid hI
 by_cases hq:a.b+m<18446744073709551616
 ·rw[Vy2 hq,if_pos rfl]
  have hW:=fun W h=>Zg4 F A c ps.length ps k ⟨a.n,a.b+m⟩ W ⟨hok.1,hq⟩ h rfl hc (ZkQ hs.2)
  generalize setP ps k ⟨a.n,a.b+m⟩=qs at *
  replace hW:=hid hW
  have q1:decide ((18446744073709551615-(a.b:Int))<(m:Int))=false:=Vy1 (by omega)
  have w2:IntKind.u64.wrap ((a.b:Int)+(m:Int))=((a.b+m:Nat):Int):=by rw[IntKind.wrap_u64];omega
  have ia:=hid (show (Tryz.prog.info? 118).map (·.size)=some (acC ⟨a.n,a.b+m⟩).length from ZaM)
  clear h0 hr hs hBq hL hRq ha hok hm hq
  generalize k.1.map bv=dk at *
  go_enter Tryz.func202,Tryz.ntmps202
  go_wp2_with (((with_reducible refine Zaa ?_ 26 (.tmp 4) rfl w.heap.size 0 rfl dk _ ?_ hu rfl i1.out ?_);rfl;exact K0.out))
  refine(hI.out _ r0.out).mono ?_
  rintro e v1 ⟨rfl,hb⟩
  have W1:=hid (W0.out.trans (hb.mono W0.out.size))
  have K1:=hid (Zab hb K0.out)
  have r1:=hid (r0.out.bel hb)
  have z1:=hid (Vx0 v1 (.cells (acC ac0).toArray 118))
  clear hb K0 r0
  go_wp2_with (first
   |(with_reducible refine Zac rfl 118 rfl (acC ac0).toArray ZaZ ?_)
   |((with_reducible refine stW 8 11 v1.heap.size 118 (acC ac0).toArray ?_ ?_ ?_ ?_ ?_);exact z1.out;exact ZaM;rfl;exact nA;intro v2 hgS hbS hsS;have X2:=hid (Zan rfl hbS);have C2:=(Zae hgS) 1 _ rfl;have F2:=Zap hgS 1;have C3:=hid (Zae (Zyc hgS (a.b+m)));have hx3:=hid (YfU v2 (B:=v1.heap.size) 1 (.int .u64 ((a.b+m:Nat):Int)) (Vx8 _));have K3:=hid (Zab (X2.out.trans hx3.out) K1.out);have r3:=hid (r1.out.bel (X2.out.trans hx3.out));have W3:=hid (W1.out.trans ((X2.out.trans hx3.out).mono W1.out.size));clear hgS hbS hsS)
   |((with_reducible refine Zaa ?_ 26 (.tmp 4) rfl w.heap.size 0 rfl dk _ ?_ hu rfl i1.out ?_);rfl;exact K3.out)
   |((with_reducible refine Zaa ?_ 118 (.tmp 8) rfl v1.heap.size 0 rfl (acC ⟨a.n,a.b+m⟩) _ ?_ hua rfl ia.out ?_);rfl;exact C3.out))
  refine(hW.out _ r3.out).mono ?_
  rintro e v4 ⟨A4,c4,rfl,o4,hb4⟩
  go_wp2
  go_ret2
  exact⟨_,_,rfl,o4.base W3.out.size,W3.out.trans (hb4.mono W3.out.size)⟩
 ·rw[Vy1 hq,if_neg (by decide)]
  have q1:decide ((18446744073709551615-(a.b:Int))<(m:Int))=true:=Vy2 (by omega)
  clear h0 hr hs hBq hL hRq ha hok hm hq
  generalize k.1.map bv=dk at *
  go_enter Tryz.func202,Tryz.ntmps202
  go_wp2_with (((with_reducible refine Zaa ?_ 26 (.tmp 4) rfl w.heap.size 0 rfl dk _ ?_ hu rfl i1.out ?_);rfl;exact K0.out))
  refine(hI.out _ r0.out).mono ?_
  rintro e v1 ⟨rfl,hb⟩
  have W1:=hid (W0.out.trans (hb.mono W0.out.size))
  have z1:=hid (Vx0 v1 (.cells (acC ac0).toArray 118))
  clear hb K0 r0
  go_wp2_with (first
   |(with_reducible refine Zac rfl 118 rfl (acC ac0).toArray ZaZ ?_)
   |((with_reducible refine stW 8 11 v1.heap.size 118 (acC ac0).toArray ?_ ?_ ?_ ?_ ?_);exact z1.out;exact ZaM;rfl;exact nA;intro v2 hgS hbS hsS;have X2:=hid (Zan rfl hbS);have C2:=(Zae hgS) 1 _ rfl;have W2:=hid (W1.out.trans (X2.out.mono W1.out.size));clear hgS hbS hsS))
  go_ret2
  exact⟨none,0,rfl,OwnR.nil _ _,W2.out⟩
def GivenRow(A:Option Addr)(c:Nat)(ps:List Pr)(x:Dp)(w:World)(e:Ending)(w':World):Prop:=∃A' c',e=.returned (.tuple #[.slice A' (giveL ps x.t x.a).length c',.int .i64 (giveC ps x.t x.a)])∧(OwnR 84 w' w.heap.size A' c' (giveL ps x.t x.a)∨(A'=A∧c'=c∧giveL ps x.t x.a=ps))∧Below w.heap.size w w'
theorem Zof(F:Nat→Prop)(A:Option Addr)(c:Nat)(ps:List Pr)(x:Dp)(w:World)(hx:x.ok)(hr:Row F w A ps)(hc:ps.length≤1000000)(hs:St ps):
  Calls Tryz.prog 139 #[.slice A ps.length c,.agg (dpC x).toArray] w (GivenRow A c ps x w):=by
 have hu:=Tryz.underlying26
 have B0:=BoxD.new w x 70
 have W0:=hid (Zad w (.cells (dpC x).toArray 70))
 have T0:=hid B0.t
 have c0:=B0.a
 have it:=hid (ZaF x.t)
 have hM:=Zmy F A c ps.length ps x.t x.a _ hx.2 (hr.bel W0.out) rfl hc hs
 have eL:giveL ps x.t x.a=if moreB ps x.t x.a=true then moreR ps x.t x.a else ps:=by
  unfold giveL moreR
  cases moreB ps x.t x.a<;>rfl
 have eC:giveC ps x.t x.a=if moreB ps x.t x.a=true then 0 else 151:=rfl
 unfold GivenRow
 rw[eL,eC]
 unfold MorePost at hM
 generalize moreR ps x.t x.a=qs at *
 cases hmb:moreB ps x.t x.a
 all_goals
  rw[hmb]at hM
  replace hM:=hid hM
  clear B0 eL eC hmb hr
  generalize x.t.1.map bv=dt at *
  generalize dpC x=cx at *
  go_enter Tryz.func139,Tryz.ntmps139
  go_wp2_with ((with_reducible refine lDr T0.out it.out hu ?_))
  refine hM.out.mono ?_
  rintro e v1 ⟨A1,c1,rfl,o1,hb⟩
  have W1:=hid (W0.out.trans (hb.mono W0.out.size))
  have O1:=hid (OwnR.base o1 W0.out.size)
  clear hb o1
  go_wp2
  go_ret2
 ·exact⟨A,c,rfl,.inr (by simp),W1.out⟩
 ·exact⟨_,_,rfl,.inl O1.out,W1.out⟩
theorem ZtE(a:Ac)(w:World):(Instr.field 118 (.agg (acC a).toArray) 0).run Tryz.prog w=.ok (.int .u64 (a.n:Int)) w:=by kernel_rfl
theorem ZqU(F:Nat→Prop)(A:Option Addr)(c:Nat)(ps:List Pr)(x:Tx)(w:World)(hr:Row F w A ps)(hc:ps.length≤1000000)(hs:Srt ps):
  Calls Tryz.prog 142 #[.slice A ps.length c,.agg (txC x).toArray] w fun e w'=>e=.returned (.bool (nextB ps x))∧Below w.heap.size w w':=by
 have hux:=Tryz.underlying39
 have B0:=BoxX.new w x 39
 have W0:=hid (Zad w (.cells (txC x).toArray 39))
 have X0:=hid B0.all
 have C0:=hid B0.n
 have jx:=hid (Zby x)
 have r0:=hid (hr.bel W0.out)
 have hF:=hid (fun W=>Zi4 x W)
 have hI:=fun W h=>Zo8 F A c ps.length ps (fromX x) W h rfl hc hs
 have hN:nextB ps x=(decide (x.n=(inA ps (fromX x)).n)&&decide (x.n<18446744073709551615)):=rfl
 rw[hN]
 generalize inA ps (fromX x)=a at *
 replace hI:=hid hI
 have hfd:=fun W=>ZtE a W
 obtain⟨b1,h1⟩:∃b,((x.n:Int)==(a.n:Int))=b:=⟨_,rfl⟩
 obtain⟨b2,h2⟩:∃b,decide ((x.n:Int)<18446744073709551615)=b:=⟨_,rfl⟩
 have hN2:(decide (x.n=a.n)&&decide (x.n<18446744073709551615))=(b1&&b2):=by
  have e1:decide (x.n=a.n)=b1:=by rw[← h1,Bool.eq_iff_iff,decide_eq_true_eq,beq_iff_eq];omega
  have e2:decide (x.n<18446744073709551615)=b2:=by rw[← h2,decide_eq_decide];omega
  rw[e1,e2]
 rw[hN2]
 clear hN hN2 B0 hr hs
 generalize x.n=xn at *
 cases b1 with
 |false=>
  generalize txC x=cx at *
  go_enter Tryz.func142,Tryz.ntmps142
  go_wp2
  generalize w.alloc (.cells cx.toArray 39)=w1 at *
  refine rgB fun hHeld=>?_
  refine' tkP 0 rfl ?_
  refine' tkC 1 rfl C0.out ?_
  refine' tkP 2 rfl ?_
  refine' tkM 3 rfl (fun _ h=>Zab h X0.out) hux jx.out ?_
  simp only[sQ]
  refine rdC 4 rfl (hF.out _) fun v1 hB hHeld=>?_
  try simp only[sQ]
  refine rdC 5 rfl (hI.out _ (r0.out.bel hHeld)) fun v2 hB hHeld=>?_
  try simp only[sQ]
  refine' tkL 6 ((.int .u64 (a.n:Int))) rfl ?_ ?_
  ·intro W hSw
   go_simp
   first|done|(simp only[hfd];done)
  try simp only[sQ]
  refine' tkW 7 8 ?_
  refine' tkW 9 10 ?_
  simp only[sQ]
  refine' tkW 11 12 ?_
  refine' tkP 13 rfl ?_
  simp only[sQ]
  refine dnN ?_
  go_wp2
  go_ret
  exact⟨rfl,W0.out.trans (hHeld.mono W0.out.size)⟩
 |true=>
  generalize txC x=cx at *
  go_enter Tryz.func142,Tryz.ntmps142
  go_wp2
  generalize w.alloc (.cells cx.toArray 39)=w1 at *
  refine rgB fun hHeld=>?_
  refine' tkP 0 rfl ?_
  refine' tkC 1 rfl C0.out ?_
  refine' tkP 2 rfl ?_
  refine' tkM 3 rfl (fun _ h=>Zab h X0.out) hux jx.out ?_
  simp only[sQ]
  refine rdC 4 rfl (hF.out _) fun v1 hB hHeld=>?_
  try simp only[sQ]
  refine rdC 5 rfl (hI.out _ (r0.out.bel hHeld)) fun v2 hB hHeld=>?_
  try simp only[sQ]
  refine' tkL 6 ((.int .u64 (a.n:Int))) rfl ?_ ?_
  ·intro W hSw
   go_simp
   first|done|(simp only[hfd];done)
  try simp only[sQ]
  refine' tkW 7 8 ?_
  refine' tkP 9 rfl ?_
  refine' tkC 10 rfl C0.out ?_
  simp only[sQ]
  refine' tkW 11 12 ?_
  refine' tkP 13 rfl ?_
  simp only[sQ]
  refine dnN ?_
  go_wp2
  go_ret
  exact⟨rfl,W0.out.trans (hHeld.mono W0.out.size)⟩
theorem Zld(ps:List Pr)(k:Dg)(a:Ac):(setP ps k a).length≤ps.length+1:=by
 have h:(withoutP ps k).length≤ps.length:=List.length_filter_le _ _
 unfold setP
 split
 ·omega
 ·rw[Zb3];omega
theorem Znd(ps:List Pr)(k:Dg)(n:Nat):(moreR ps k n).length≤ps.length+1:=by
 unfold moreR
 split
 ·exact Zld _ _ _
 ·exact Nat.zero_le _
theorem Zne{ps:List Pr}{k:Dg}{n:Nat}(h:moreB ps k n=true):moreR ps k n=moreL ps k n:=by unfold moreR;rw[if_pos h]
theorem Yap(ps:List Pr)(x:Tx)(box:Dg):
  paidC ps x box=(if poorB ps x=true then 150 else if (moreB (lessL ps x) x.t x.a&&moreB (moreR (lessL ps x) x.t x.a) box x.f)=true then 0 else 151)∧
  paidL ps x box=(if poorB ps x=true then bareL ps x else if (moreB (lessL ps x) x.t x.a&&moreB (moreR (lessL ps x) x.t x.a) box x.f)=true then moreR (moreR (lessL ps x) x.t x.a) box x.f else bareL ps x):=by
 have hL:paidL ps x box=if paidC ps x box=0 then moreL (moreL (lessL ps x) x.t x.a) box x.f else bareL ps x:=rfl
 have hC:paidC ps x box=if poorB ps x=true then 150 else if overB ps x box=true then 151 else 0:=rfl
 have hO:overB ps x box= !(moreB (lessL ps x) x.t x.a&&moreB (moreL (lessL ps x) x.t x.a) box x.f):=rfl
 cases hp:poorB ps x
 ·cases h1:moreB (lessL ps x) x.t x.a
  ·rw[h1]at hO
   rw[hp,hO]at hC
   rw[hL,hC]
   constructor<;>simp
  ·rw[Zne h1]
   cases h2:moreB (moreL (lessL ps x) x.t x.a) box x.f
   ·rw[h1,h2]at hO
    rw[hp,hO]at hC
    rw[hL,hC]
    constructor<;>simp
   ·rw[h1,h2]at hO
    rw[hp,hO]at hC
    rw[hL,hC,Zne h2]
    constructor<;>simp
 ·rw[hp]at hC
  rw[hL,hC]
  constructor<;>simp
structure PB (W w:World) (x:Tx) (b k:Dg) (a:Ac) (g2 g3:Nat):Prop where
 X:W.heap[w.heap.size]? =some (.cells (txC x).toArray 39 (0,0))
 D:W.heap[w.heap.size+1]? =some (.cells (b.1.map bv).toArray 26 (0,0))
 K:W.heap[g2]? =some (.cells (k.1.map bv).toArray 26 (0,0))
 A:W.heap[g3]? =some (.cells (acC a).toArray 118 (0,0))
 lt2:w.heap.size+1<g2
 lt3:g2<g3
 ext:Below w.heap.size w W
theorem PB.bel{W W' w:World}{x:Tx}{b k:Dg}{a:Ac}{g2 g3:Nat}(h:PB W w x b k a g2 g3)(hb:Below W.heap.size W W'):PB W' w x b k a g2 g3:=
 ⟨(hb.block _ (block_lt h.X)).trans h.X,(hb.block _ (block_lt h.D)).trans h.D,(hb.block _ (block_lt h.K)).trans h.K,(hb.block _ (block_lt h.A)).trans h.A,h.lt2,h.lt3,h.ext.trans (hb.mono h.ext.size)⟩
theorem PB.set0{W w:World}{x:Tx}{b k:Dg}{a:Ac}{g2 g3:Nat}(h:PB W w x b k a g2 g3)(m:Nat):PB (W.setCell ⟨g3,0,none⟩ (.int .u64 (m:Int))) w x b k ⟨m,a.b⟩ g2 g3:=by
 have l2:=h.lt2
 have l3:=h.lt3
 have hk:=fun (j:Nat) (hj:j≠g3)=>Vy3 W ⟨g3,0,none⟩ (.int .u64 (m:Int)) j hj
 exact⟨(hk _ (by omega)).trans h.X,(hk _ (by omega)).trans h.D,(hk _ (by omega)).trans h.K,YfO h.A m,l2,l3,h.ext.setCell (p:=⟨g3,0,none⟩) (by show w.heap.size≤g3;omega) _⟩
theorem PB.set1{W w:World}{x:Tx}{b k:Dg}{a:Ac}{g2 g3:Nat}(h:PB W w x b k a g2 g3)(m:Nat):PB (W.setCell ⟨g3,1,none⟩ (.int .u64 (m:Int))) w x b k ⟨a.n,m⟩ g2 g3:=by
 have l2:=h.lt2
 have l3:=h.lt3
 have hk:=fun (j:Nat) (hj:j≠g3)=>Vy3 W ⟨g3,1,none⟩ (.int .u64 (m:Int)) j hj
 exact⟨(hk _ (by omega)).trans h.X,(hk _ (by omega)).trans h.D,(hk _ (by omega)).trans h.K,Zyc h.A m,l2,l3,h.ext.setCell (p:=⟨g3,1,none⟩) (by show w.heap.size≤g3;omega) _⟩
theorem PB.x{W w:World}{x:Tx}{b k:Dg}{a:Ac}{g2 g3:Nat}(h:PB W w x b k a g2 g3):BoxX W w.heap.size x:=BoxX.of (Zae h.X)
def PaidPost(ps:List Pr)(x:Tx)(box:Dg)(w:World)(e:Ending)(w':World):Prop:=∃A' c',e=.returned (.tuple #[.slice A' (paidL ps x box).length c',.int .i64 (paidC ps x box)])∧OwnR 84 w' w.heap.size A' c' (paidL ps x box)∧Below w.heap.size w w'
theorem ZqW(F:Nat→Prop)(A:Option Addr)(c:Nat)(ps:List Pr)(x:Tx)(box:Dg)(w:World)(hx:x.ok)(hr:Row F w A ps)(hc:ps.length≤900000)(hs:St ps)(hn:nextB ps x=true):
  Calls Tryz.prog 143 #[.slice A ps.length c,.agg (txC x).toArray,.agg (box.1.map bv).toArray] w (PaidPost ps x box w):=by
 have hu:=Tryz.underlying26
 have hux:=Tryz.underlying39
 have hua:=Tryz.underlying118
 have hX0:=Vx0 w (.cells (txC x).toArray 39)
 have b1:=Zad (w.alloc (.cells (txC x).toArray 39)) (.cells (box.1.map bv).toArray 26)
 have hD0:=Vx0 (w.alloc (.cells (txC x).toArray 39)) (.cells (box.1.map bv).toArray 26)
 rw[Vx2]at hD0
 have W0:=hid ((Zad w (.cells (txC x).toArray 39)).trans (b1.mono (Zad w _).size))
 replace hX0:=hid ((b1.block _ (block_lt hX0)).trans hX0)
 replace hD0:=hid hD0
 have r0:=hid (hr.bel W0.out)
 have iX:=hid (Zby x)
 have iD:=hid (ZaF box)
 have iK:=hid (ZaF (fromX x))
 have iT:=hid (ZaF x.t)
 have zK:(((fromX x).1.map bv).toArray).size=32:=by simp[(fromX x).2]
 have oK:=Zay (fromX x).1
 have iA:=fun a:Ac=>(show (Tryz.prog.info? 118).map (·.size)=some (acC a).length from ZaM)
 have hFr:=fun W=>Zi4 x W
 rw[show keyD x.p=fromX x from rfl]at hFr
 have hI:=fun W h=>Zo8 F A c ps.length ps (fromX x) W h rfl (by omega) hs.1
 have sB:=Zjb hs hn
 have sL:=ZgD hs hn
 have lB:(bareL ps x).length≤ps.length+1:=Zld _ _ _
 have lL:(lessL ps x).length≤(bareL ps x).length+1:=Zld _ _ _
 have hW1:=fun W h=>Zg4 F A c ps.length ps (fromX x) _ W (ZmL hn) h rfl (by omega) (ZkQ hs.2)
 have hW2:=fun G A2 c2 W h=>Zg4 G A2 c2 (bareL ps x).length (bareL ps x) (fromX x) _ W (ZkT hn) h rfl (by omega) (ZkQ sB.2)
 rw[show setP ps (fromX x) ⟨(inA ps (fromX x)).n+1,(inA ps (fromX x)).b⟩=bareL ps x from rfl]at hW1
 rw[show setP (bareL ps x) (fromX x) ⟨(inA ps (fromX x)).n+1,(inA ps (fromX x)).b-(x.a+x.f)⟩=lessL ps x from rfl]at hW2
 have hM1:=fun G A3 c3 W h=>Zmy G A3 c3 (lessL ps x).length (lessL ps x) x.t x.a W hx.2.1 h rfl (by omega) sL
 have lQ:=Znd (lessL ps x) x.t x.a
 have hM2:moreB (lessL ps x) x.t x.a=true→_:=fun hb=>fun G A4 c4 W h=>Zmy G A4 c4 (moreR (lessL ps x) x.t x.a).length (moreR (lessL ps x) x.t x.a) box x.f W hx.2.2 h rfl (by omega) (by rw[Zne hb];exact ZhZ sL hb)
 obtain⟨eC,eL⟩:=Yap ps x box
 rw[show poorB ps x=decide ((inA ps (fromX x)).b<x.a+x.f) from rfl]at eC eL
 obtain⟨pc,hpc⟩:∃v,paidC ps x box=v:=⟨_,rfl⟩
 obtain⟨pl,hpl⟩:∃v,paidL ps x box=v:=⟨_,rfl⟩
 unfold PaidPost
 rw[hpc]at eC ⊢
 rw[hpl]at eL ⊢
 unfold MorePost at hM1 hM2
 have hok:=ZhV ps (fromX x)
 have hok1:=Zni hn
 have hxa:=hx.2.1
 have hxf:=hx.2.2
 replace hr:=hid hr
 clear hpc hpl hs hn sB sL lQ b1 lB lL hx
 generalize moreB (moreR (lessL ps x) x.t x.a) box x.f=b2 at *
 generalize moreR (moreR (lessL ps x) x.t x.a) box x.f=q2 at *
 generalize moreB (lessL ps x) x.t x.a=b1 at *
 generalize moreR (lessL ps x) x.t x.a=q1 at *
 generalize lessL ps x=less at *
 generalize bareL ps x=bare at *
 generalize inA ps (fromX x)=a at *
 generalize fromX x=k at *
 obtain⟨n1,hn1⟩:∃n1,a.n+1=n1:=⟨_,rfl⟩
 obtain⟨s,hsd⟩:∃s,a.b-(x.a+x.f)=s:=⟨_,rfl⟩
 rw[hn1]at hW1 hW2 hok1
 rw[hsd]at hW2
 have nA:=ZbW a
 replace hFr:=hid hFr
 replace hI:=hid hI
 replace hW1:=hid hW1
 replace hW2:=hid hW2
 replace hM1:=hid hM1
 replace hM2:=hid hM2
 replace eC:=hid eC
 replace eL:=hid eL
 replace iA:=hid iA
 replace hok:=hid hok
 have wA:IntKind.u64.wrap ((a.n:Int)+1)=(n1:Int):=by rw[IntKind.wrap_u64];omega
 have wB:IntKind.u64.wrap (18446744073709551615-(x.f:Int))=18446744073709551615-(x.f:Int):=by rw[IntKind.wrap_u64];omega
 go_enter Tryz.func143,Tryz.ntmps143
 go_wp2_with ((with_reducible refine lDr (Zae hX0.out) iX.out hux ?_))
 refine(hFr.out _).mono ?_
 rintro e v1 ⟨rfl,hb⟩
 have W1:=hid (W0.out.trans (hb.mono W0.out.size))
 have X1:=hid ((hb.block _ (block_lt hX0.out)).trans hX0.out)
 have D1:=hid ((hb.block _ (block_lt hD0.out)).trans hD0.out)
 have r1:=hid (r0.out.bel hb)
 have z1:=hid (Vx0 v1 (.cells z32 26))
 have l1:=hid (block_lt D1.out)
 clear hb hX0 hD0 r0 W0
 go_wp2_with (first
  |(with_reducible refine Zac rfl 26 rfl z32 Zam ?_)
  |((with_reducible refine stW 8 15 v1.heap.size 26 z32 ?_ ?_ ?_ ?_ ?_);exact z1.out;(rw[zK];exact Zai);(rw[zK];exact z32_size);exact oK;intro v2 hgS hbS hsS;have B2:=hid (Zan rfl hbS);have K2:=hid hgS;have W2:=hid (W1.out.trans (B2.out.mono W1.out.size));have X2:=hid ((B2.out.block _ (block_lt X1.out)).trans X1.out);have D2:=hid ((B2.out.block _ (block_lt D1.out)).trans D1.out);have r2:=hid (r1.out.bel B2.out);have l2:=hid (block_lt hgS);clear hgS hbS hsS B2)
  |(with_reducible refine lDr (Zae K2.out) iK.out hu ?_))
 refine(hI.out _ r2.out).mono ?_
 rintro e v3 ⟨rfl,hb⟩
 have W3:=hid (W2.out.trans (hb.mono W2.out.size))
 have X3:=hid ((hb.block _ (block_lt X2.out)).trans X2.out)
 have D3:=hid ((hb.block _ (block_lt D2.out)).trans D2.out)
 have K3:=hid ((hb.block _ (block_lt K2.out)).trans K2.out)
 have r3:=hid (r2.out.bel hb)
 have l3:=hid (Vx4 l2.out hb.size)
 have z3:=hid (Vx0 v3 (.cells (acC ac0).toArray 118))
 clear hb X1 D1 X2 D2 K2 W1 W2 r1 r2 z1 l2
 go_wp2_with (first
  |(with_reducible refine Zac rfl 118 rfl (acC ac0).toArray ZaZ ?_)
  |((with_reducible refine stW 9 18 v3.heap.size 118 (acC ac0).toArray ?_ ?_ ?_ ?_ ?_);exact z3.out;exact ZaM;rfl;exact nA;intro v4 hgS hbS hsS;have B4:=hid (Zan rfl hbS);have P4:=hid (show PB v4 w x box k a v1.heap.size v3.heap.size from ⟨(B4.out.block _ (block_lt X3.out)).trans X3.out,(B4.out.block _ (block_lt D3.out)).trans D3.out,(B4.out.block _ (block_lt K3.out)).trans K3.out,hgS,l1.out,l3.out,W3.out.trans (B4.out.mono W3.out.size)⟩);have P5:=hid (P4.out.set0 n1);have r5:=hid (hr.out.bel P5.out.ext);have C4:=(Zae hgS) 0 _ rfl;have F4:=Zap hgS 0;clear hgS hbS hsS)
  |(with_reducible refine lDr (Zae P5.out.K) iK.out hu ?_)
  |(with_reducible refine lDr (Zae P5.out.A) (iA.out _) hua ?_))
 generalize v4.setCell ⟨v3.heap.size,0,none⟩ (.int .u64 (n1:Int))=v5 at *
 refine(hW1.out _ r5.out).mono ?_
 rintro e v6 ⟨A6,c6,rfl,o6,hb⟩
 have P6:=hid (P5.out.bel hb)
 have q3:=hid (block_lt P5.out.A)
 have m5:=hid P5.out.ext.size
 have O6:=hid o6
 have ca:=P6.out.x.a
 have cf:=P6.out.x.f
 have cb:=(Zae P6.out.A) 1 _ rfl
 have hab:=hok.out.2
 clear hb o6 hW1 hI hFr P4 P5 r5 W3 X3 D3 K3 r3 l3 z3 C4 F4 wA l1
 by_cases hp:a.b<x.a+x.f
 ·obtain rfl:pc=150:=by rw[eC.out,Vy2 hp];rfl
  obtain rfl:pl=bare:=by rw[eL.out,Vy2 hp];rfl
  clear eC eL hM1 hM2 hW2
  by_cases ho:18446744073709551615-(x.f:Int)<(x.a:Int)
  ·have qA:decide (18446744073709551615-(x.f:Int)<(x.a:Int))=true:=Vy2 ho
   clear hp ho
   go_wp2
   go_ret2
   exact⟨_,_,rfl,O6.out.base m5.out,P6.out.ext⟩
  ·have qA:decide (18446744073709551615-(x.f:Int)<(x.a:Int))=false:=Vy1 ho
   have wC:IntKind.u64.wrap ((x.a:Int)+(x.f:Int))=(x.a:Int)+(x.f:Int):=by rw[IntKind.wrap_u64];omega
   have qB:decide ((a.b:Int)<(x.a:Int)+(x.f:Int))=true:=Vy2 (by omega)
   clear hp ho
   go_wp2
   go_ret2
   exact⟨_,_,rfl,O6.out.base m5.out,P6.out.ext⟩
 ·rw[Vy1 hp]at eC eL
  have qA:decide (18446744073709551615-(x.f:Int)<(x.a:Int))=false:=Vy1 (by omega)
  have wC:IntKind.u64.wrap ((x.a:Int)+(x.f:Int))=(x.a:Int)+(x.f:Int):=by rw[IntKind.wrap_u64];omega
  have qB:decide ((a.b:Int)<(x.a:Int)+(x.f:Int))=false:=Vy1 (by omega)
  have wD:IntKind.u64.wrap ((a.b:Int)-((x.a:Int)+(x.f:Int)))=(s:Int):=by rw[IntKind.wrap_u64];omega
  have F6:=Zap P6.out.A 1
  have P7:=hid (P6.out.set1 s)
  have O7:=hid (OwnQ.keptG O6.out (fun b _ hne=>Vy3 v6 ⟨v3.heap.size,1,none⟩ (.int .u64 (s:Int)) b hne) q3.out q3.out)
  clear hp O6 hab
  go_wp2
  generalize v6.setCell ⟨v3.heap.size,1,none⟩ (.int .u64 (s:Int))=v7 at *
  refine rgB fun hHeld=>?_
  refine' tkP 0 rfl ?_
  refine' tkM 1 rfl (fun _ h=>Zab h (Zae P7.out.K)) hu iK.out ?_
  refine' tkM 2 rfl (fun _ h=>Zab h (Zae P7.out.A)) hua (iA.out _) ?_
  refine' tkP 4 rfl ?_
  simp only[sQ]
  refine' tkM 5 rfl (fun _ h=>Zab h P7.out.x.t) hu iT.out ?_
  refine' tkP 6 rfl ?_
  refine' tkC 7 rfl P7.out.x.a ?_
  simp only[sQ]
  refine rdH 3 rfl fun K hK=>?_
  go_simp
  refine(hW2.out _ _ _ _ (OwnR.row (O7.out.bel hHeld))).mono ?_
  rintro e u8 ⟨A8,c8,rfl,o8,hB⟩
  have m8:=OwnR.row o8
  go_wp2_with fail
  refine kB hK hHeld hB fun hHeld=>?_
  clear hK K
  try simp only[sQ]
  refine rdH 8 rfl fun K hK=>?_
  go_simp
  refine(hM1.out _ _ _ _ m8).mono ?_
  rintro e u9 ⟨A9,c9,rfl,o9,hB⟩
  have n8:=hid hHeld.size
  go_wp2_with fail
  refine kB hK hHeld hB fun hHeld=>?_
  clear hK K
  try simp only[sQ]
  refine' tkW 9 10 ?_
  refine' tkW 11 12 ?_
  simp only[sQ]
  refine' tkP 13 rfl ?_
  simp only[sQ]
  refine dnN ?_
  have P9:=hid (P7.out.bel hHeld)
  have O9:=hid (O7.out.bel hHeld)
  have row9:=hid (OwnR.row o9)
  clear hW2 hM1 m8 o8 o9 O7 hHeld
  cases b1 with
  |false=>
   obtain rfl:pc=151:=by rw[eC.out];rfl
   obtain rfl:pl=bare:=by rw[eL.out];rfl
   clear eC eL hM2
   go_wp2
   go_ret2
   exact⟨_,_,rfl,OwnR.base O9.out m5.out,P9.out.ext⟩
  |true=>
   have cf9:=P9.out.x.f
   go_wp2_with ((with_reducible refine lDr (Zae P9.out.D) iD.out hu ?_))
   refine(hM2.out (by first|rfl|trivial) _ _ _ _ row9.out).mono ?_
   rintro e v10 ⟨A10,c10,rfl,o10,hb⟩
   have P10:=hid (P9.out.bel hb)
   have O10:=hid (O9.out.bel hb)
   have Q10:=hid (OwnR.base o10 P9.out.ext.size)
   clear hb o10 row9 hM2
   cases b2 with
   |false=>
    obtain rfl:pc=151:=by rw[eC.out];rfl
    obtain rfl:pl=bare:=by rw[eL.out];rfl
    clear eC eL
    go_wp2
    go_ret2
    exact⟨_,_,rfl,OwnR.base O10.out m5.out,P10.out.ext⟩
   |true=>
    obtain rfl:pc=0:=by rw[eC.out];rfl
    obtain rfl:pl=q2:=by rw[eL.out];rfl
    clear eC eL
    go_wp2
    go_ret2
    exact⟨_,_,rfl,Q10.out,P10.out.ext⟩
theorem Zl0(w:World)(l m q:List Value)(t u v:TypeId):
  (((w.alloc (.cells l.toArray t)).alloc (.cells m.toArray u)).alloc (.cells q.toArray v)).rangeAt w.heap.size 0 l∧
  (((w.alloc (.cells l.toArray t)).alloc (.cells m.toArray u)).alloc (.cells q.toArray v)).rangeAt (w.heap.size+1) 0 m∧
  (((w.alloc (.cells l.toArray t)).alloc (.cells m.toArray u)).alloc (.cells q.toArray v)).rangeAt (w.heap.size+1+1) 0 q∧
  Below w.heap.size w (((w.alloc (.cells l.toArray t)).alloc (.cells m.toArray u)).alloc (.cells q.toArray v)):=by
 have h1:=Zae (Vx0 w (.cells l.toArray t))
 have h2:=Zae (Vx0 (w.alloc (.cells l.toArray t)) (.cells m.toArray u))
 have h3:=Zae (Vx0 ((w.alloc (.cells l.toArray t)).alloc (.cells m.toArray u)) (.cells q.toArray v))
 simp only[Vx2]at h2 h3
 exact⟨Zab (Zad _ _) (Zab (Zad _ _) h1),Zab (Zad _ _) h2,h3,Zag (Zag (Zad _ _) (Zad _ _)) (Zad _ _)⟩
end Go.Proofs.YtomhoehlgagiiaaGreatDoor
