import Derived.Test.YtnnclggeifnomaaGreatDoorStX
import Derived.Test.YtnnclggeifnomaaGreatDoorPrA
set_option maxRecDepth 100000
set_option linter.all false
set_option maxHeartbeats 1600000
namespace Go.Proofs.YtnnclggeifnomaaGreatDoor
open Go.RowKit
theorem Zrf(A:Option Addr)(n c:Nat):Tryz.prog.built 43 [(1,.slice A n c)]=some (z0.1.map bv++[Value.slice A n c]).toArray:=by kernel_rfl
theorem ZuX(k:Dg)(v:List UInt8):mayP [⟨k,v⟩]=valB v:=by
 unfold mayP
 simp[chain]
theorem Zlq(v:List UInt8)(A:Option Addr)(c:Nat)(b:Bool)(w:World)(hr:Rd w A v)(h1:v.length≤c)(h2:c≤maxLen)(hb:valB v=b):
  Calls Tryz.prog 127 #[.slice A v.length c] w fun e w'=>e=.returned (.bool b)∧Below w.heap.size w w':=by
 have hbu:=hid (Zrf A v.length c)
 have hrow:=Zlb (E:=43) (w:=w) (xs:=[(⟨z0,v⟩:Pr)]) (css:=[z0.1.map bv++[Value.slice A v.length c]]) rfl (fun j x vs hx hv=>by
  rcases j with _|j
  ·simp at hx hv;subst hx hv;exact ZcL z0 v A c h1 h2 (hr.row (F:=fun _=>True) fun _ _ _=>trivial)
  ·simp at hx)
 have hP:=ZcH _ _ 1 1 [(⟨z0,v⟩:Pr)] _ hrow rfl (by simp)
 have hlen:=hid (Zbq z0 (Value.slice A v.length c))
 rw[ZuX,hb]at hP
 have hfl:[z0.1.map bv++[Value.slice A v.length c]].flatten=z0.1.map bv++[Value.slice A v.length c]:=by simp
 rw[hfl]at hP
 have W0:=Zad w (.cells (z0.1.map bv++[Value.slice A v.length c]).toArray 43)
 clear hrow hfl hb
 generalize z0.1.map bv=dz at *
 replace hP:=hid hP
 go_enter Tryz.func127,Tryz.ntmps127
 go_wp2_with (first
  |((with_reducible refine Zaf rfl 43 _ rfl (dz++[Value.slice A v.length c]:List Value).toArray [(1,Value.slice A v.length c)] ?_ ?_ ?_);exact hbu.out;rfl)
  |((with_reducible refine ZaC slotPr (by decide) rfl (.tmp 4) rfl (dz++[Value.slice A v.length c]:List Value) ?_ hlen.out ?_);rfl))
 refine hP.out.mono ?_
 rintro e w2 ⟨rfl,hb2⟩
 cases b
 ·go_wp2
  go_ret
  exact⟨rfl,W0.trans (hb2.mono W0.size)⟩
 ·go_wp2
  go_ret
  exact⟨rfl,W0.trans (hb2.mono W0.size)⟩
theorem Zlp(A:Option Addr)(n c:Nat)(root:Int)(w:World):
  Calls Tryz.prog 128 #[.agg #[.slice A n c,.int .i64 root]] w fun e w'=>e=.returned (.bool (decide (261844<n)))∧Below w.heap.size w w':=by
 have W0:=Zad w (.cells #[.slice A n c,.int .i64 root] 24)
 have y:=(BoxT.new w A n c root 24).ns
 have e:decide ((261844:Int)<(n:Int))=decide (261844<n):=by simp;omega
 go_enter Tryz.func128,Tryz.ntmps128
 go_wp2
 go_ret
 exact⟨Zb4 (by first|rfl|(simp;done)|(simp;omega)),W0⟩
theorem ZlU(k:Dg)(d:Nat)(hd:d<256)(u:Value)(w:World)(hu:u=.agg (k.1.map bv).toArray):
  Calls Tryz.prog 181 #[u,.int .i64 (d:Int)] w fun e w'=>e=.returned (.int .u8 (kb k.1 d:Int))∧Below w.heap.size w w':=by
 subst hu
 have hB:=fun W=>ZgZ k.1 d W k.2
 rw[show bitV k.1 (d:Int)=kb k.1 d by unfold bitV;rw[if_pos (by omega)];rfl]at hB
 have W0:=Zad w (.cells (k.1.map bv).toArray 37)
 have r0:=Zae (Vx0 w (.cells (k.1.map bv).toArray 37))
 have hu:=Tryz.underlying37
 have hi:=hid (Zaz k)
 generalize k.1.map bv=dk at *
 generalize kb k.1 d=z at *
 replace r0:=hid r0
 go_enter Tryz.func181,Tryz.ntmps181
 go_wp2_with ((with_reducible refine lDr r0.out hi.out hu ?_))
 refine(hB _).mono ?_
 rintro e w2 ⟨rfl,hb2⟩
 go_wp2
 go_ret
 exact⟨rfl,W0.trans (hb2.mono W0.size)⟩
theorem Zo4(F:Nat→Prop)(x:Nd)(A:Option Addr)(c a:Nat)(w:World)(hr:Row F w A x.v)(h1:x.v.length≤c)(h2:c≤maxLen)(ha:a≤9223372036854775806):
  Calls Tryz.prog 119 #[.agg (ndC x A c).toArray,.int .i64 ((a:Int)+1)] w fun e w'=>e=.returned (.bool (oneN x a))∧Below w.heap.size w w':=by
 have W0:=Zad w (.cells (ndC x A c).toArray 106)
 have hb:=BoxN.new w x A c 106
 have hrd:=hr.rd.bel W0
 have hl:=hb.leaf
 have hv:=hb.val
 have hL:=hb.l
 have hR:=hb.r
 have hk:=hid hb.key
 have hu:=Tryz.underlying37
 have hi:=hid (Zaz x.k)
 have hz:=hid Zes
 obtain⟨vb,hvb⟩:∃vb,valB x.v=vb:=⟨_,rfl⟩
 obtain⟨kb,hkb⟩:∃kb,decide (x.k=z0)=kb:=⟨_,rfl⟩
 have hE:∀W,(Op.equalIn 10000 37 (.agg (x.k.1.map bv).toArray) (.agg (z0.1.map bv).toArray)).run Tryz.prog W=.ok kb W:=fun W=>ZaL x.k z0 kb hkb W
 obtain⟨ans,hans⟩:∃ans,oneN x a=ans:=⟨_,rfl⟩
 rw[hans]
 have hA:oneN x a=ans:=hans
 unfold oneN at hA
 rw[hvb,hkb]at hA
 replace hA:=hid hA
 obtain⟨leaf,k,v,l,r⟩:=x
 dsimp only at *
 clear hans hb hkb hr
 have hI:=fun W hW=>Zlq v A c vb W hW h1 h2 hvb
 generalize hcs:ndC ⟨leaf,k,v,l,r⟩ A c=cs at *
 generalize k.1.map bv=dk at *
 generalize z0.1.map bv=dz at *
 clear hcs
 replace hvb:=hid hvb
 replace hI:=hid hI
 replace hrd:=hid hrd
 cases leaf
 ·have hA2:(decide (0≤l∧l≤a∧0≤r∧r≤a∧¬(l=0∧r=0))&&kb&&decide (v=[]))=ans:=by rw[← hA.out,if_neg (by decide)]
  clear hA
  cases kb
  ·have hA3:false=ans:=by rw[← hA2,Bool.and_false,Bool.false_and]
   replace hA3:=hid hA3
   clear hA2
   go_enter Tryz.func119,Tryz.ntmps119
   go_wp2_with (first|(with_reducible refine lDr hk.out hi.out hu ?_)|((with_reducible refine Zaf rfl 37 _ rfl dz.toArray [] ?_ ?_ ?_);exact hz.out;rfl))
   go_ret
   exact⟨Zb4 hA3.out,W0⟩
  rw[Bool.and_true]at hA2
  rcases v with _|⟨v1,v2⟩
  case cons=>
   have hA3:false=ans:=by rw[← hA2,Vy1 (show ¬(v1::v2=[]) by simp),Bool.and_false]
   replace hA3:=hid hA3
   clear hA2
   have q0:(((v1::v2).length:Int)==0)=false:=beq_eq_false_iff_ne.2 (by simp;omega)
   generalize (v1::v2).length=vl at *
   go_enter Tryz.func119,Tryz.ntmps119
   go_wp2_with (first|(with_reducible refine lDr hk.out hi.out hu ?_)|((with_reducible refine Zaf rfl 37 _ rfl dz.toArray [] ?_ ?_ ?_);exact hz.out;rfl))
   go_ret
   exact⟨Zb4 hA3.out,W0⟩
  rw[Vy2 (show ([]:List UInt8)=[] from rfl),Bool.and_true]at hA2
  have no:¬(0≤l∧l≤a∧0≤r∧r≤a∧¬(l=0∧r=0))→false=ans:=fun h=>by rw[← hA2,Vy1 h]
  replace no:=hid no
  by_cases q1:l<0
  ·replace no:=hid (no.out (by omega))
   have pp:decide ((0:Int)≤l)=false:=Vy1 (by omega)
   go_enter Tryz.func119,Tryz.ntmps119
   go_wp2_with (first|(with_reducible refine lDr hk.out hi.out hu ?_)|((with_reducible refine Zaf rfl 37 _ rfl dz.toArray [] ?_ ?_ ?_);exact hz.out;rfl))
   go_ret
   exact⟨Zb4 no.out,W0⟩
  by_cases q2:(a:Int)<l
  ·replace no:=hid (no.out (by omega))
   have p1:decide ((0:Int)≤l)=true:=Vy2 (by omega)
   have pp:decide (l<(a:Int)+1)=false:=Vy1 (by omega)
   go_enter Tryz.func119,Tryz.ntmps119
   go_wp2_with (first|(with_reducible refine lDr hk.out hi.out hu ?_)|((with_reducible refine Zaf rfl 37 _ rfl dz.toArray [] ?_ ?_ ?_);exact hz.out;rfl))
   go_ret
   exact⟨Zb4 no.out,W0⟩
  by_cases q3:r<0
  ·replace no:=hid (no.out (by omega))
   have p1:decide ((0:Int)≤l)=true:=Vy2 (by omega)
   have p2:decide (l<(a:Int)+1)=true:=Vy2 (by omega)
   have pp:decide ((0:Int)≤r)=false:=Vy1 (by omega)
   go_enter Tryz.func119,Tryz.ntmps119
   go_wp2_with (first|(with_reducible refine lDr hk.out hi.out hu ?_)|((with_reducible refine Zaf rfl 37 _ rfl dz.toArray [] ?_ ?_ ?_);exact hz.out;rfl))
   go_ret
   exact⟨Zb4 no.out,W0⟩
  by_cases q4:(a:Int)<r
  ·replace no:=hid (no.out (by omega))
   have p1:decide ((0:Int)≤l)=true:=Vy2 (by omega)
   have p2:decide (l<(a:Int)+1)=true:=Vy2 (by omega)
   have p3:decide ((0:Int)≤r)=true:=Vy2 (by omega)
   have pp:decide (r<(a:Int)+1)=false:=Vy1 (by omega)
   go_enter Tryz.func119,Tryz.ntmps119
   go_wp2_with (first|(with_reducible refine lDr hk.out hi.out hu ?_)|((with_reducible refine Zaf rfl 37 _ rfl dz.toArray [] ?_ ?_ ?_);exact hz.out;rfl))
   go_ret
   exact⟨Zb4 no.out,W0⟩
  have p1:decide ((0:Int)≤l)=true:=Vy2 (by omega)
  have p2:decide (l<(a:Int)+1)=true:=Vy2 (by omega)
  have p3:decide ((0:Int)≤r)=true:=Vy2 (by omega)
  have p4:decide (r<(a:Int)+1)=true:=Vy2 (by omega)
  by_cases q5:l=0
  ·have no2:(r !=0)=ans:=by
    subst q5
    by_cases h:r=0
    ·subst h;exact no.out (by omega)
    ·rw[← hA2,Vy2 (show 0≤(0:Int)∧(0:Int)≤a∧0≤r∧r≤a∧¬((0:Int)=0∧r=0) from ⟨by omega,by omega,by omega,by omega,fun e=>h e.2⟩)]
     exact bne_iff_ne.2 h
   replace no2:=hid no2
   subst q5
   clear hA2 no
   go_enter Tryz.func119,Tryz.ntmps119
   go_wp2_with (first|(with_reducible refine lDr hk.out hi.out hu ?_)|((with_reducible refine Zaf rfl 37 _ rfl dz.toArray [] ?_ ?_ ?_);exact hz.out;rfl))
   go_ret
   exact⟨Zb4 no2.out,W0⟩
  ·have yes:true=ans:=by rw[← hA2,Vy2 (show 0≤l∧l≤a∧0≤r∧r≤a∧¬(l=0∧r=0) from ⟨by omega,by omega,by omega,by omega,fun e=>q5 e.1⟩)]
   have p5:(l !=0)=true:=bne_iff_ne.2 q5
   replace yes:=hid yes
   clear hA2 no
   go_enter Tryz.func119,Tryz.ntmps119
   go_wp2_with (first|(with_reducible refine lDr hk.out hi.out hu ?_)|((with_reducible refine Zaf rfl 37 _ rfl dz.toArray [] ?_ ?_ ?_);exact hz.out;rfl))
   go_ret
   exact⟨Zb4 yes.out,W0⟩
 ·have hA2:(vb&&decide (l=0)&&decide (r=0))=ans:=by rw[← hA.out,if_pos rfl]
  replace hA2:=hid hA2
  clear hA
  go_enter Tryz.func119,Tryz.ntmps119
  go_wp2_with fail
  refine(hI.out _ hrd.out).mono ?_
  rintro e w7 ⟨rfl,hb7⟩
  have W7:=W0.trans (hb7.mono W0.size)
  have hL7:=(hb7.cell (Vx5 _ _ hL)).trans hL
  have hR7:=(hb7.cell (Vx5 _ _ hR)).trans hR
  cases vb
  ·go_wp2
   go_ret
   exact⟨Zb4 hA2.out,W7⟩
  ·by_cases hl0:l=0
   ·subst hl0
    go_wp2
    go_ret
    exact⟨Zb4 (by rw[← hA2.out];simp;rfl),W7⟩
   ·have ql:(l==0)=false:=beq_eq_false_iff_ne.2 hl0
    go_wp2
    go_ret
    exact⟨Zb4 (by rw[← hA2.out];simp[hl0]),W7⟩
def leafB(ns:List Nd)(n:Int):Bool:=decide (n≠0)&&(ndAt ns n).leaf
def forkB(ns:List Nd)(n:Int):Bool:=decide (n≠0)&& !(ndAt ns n).leaf
def singleP(ns:List Nd)(a b:Int):Int:=if (leafB ns a&&decide (b=0))=true then a else if (leafB ns b&&decide (a=0))=true then b else 0
def z2C:Array Value:=#[.int .i64 0,.int .i64 0]
theorem ZiX:(Tryz.prog.info? 222).map (fun i=>(i.zero,i.size))=some (some (.agg z2C),z2C.size):=by kernel_rfl
theorem size2:(Tryz.prog.info? 222).map (·.size)=some 2:=by kernel_rfl
theorem Yik(a b:Int):Tryz.prog.built 222 [(0,.int .i64 a),(1,.int .i64 b)]=some #[Value.int .i64 a,.int .i64 b]:=by kernel_rfl
theorem Yb0(a b:Int):(#[Value.int .i64 a,.int .i64 b]:Array Value).all (·.oneCell')=true:=all_oneCell_toArray (cs:=[Value.int .i64 a,.int .i64 b]) fun u hu=>by
 simp at hu
 rcases hu with rfl|rfl<;>rfl
theorem Zrc{w w1:World}{o1 o2:Obj}{k:Nat}(hk:k=w.heap.size+1)(hb:((w.alloc o1).alloc o2).grownBy w1 (some k)):Below w.heap.size w w1:=
 (Zag (Zad w o1) (Zad _ o2)).grown hb (Zag (Zad w o1) (Zad _ o2)).size (fun g e=>by injection e with e;omega)
theorem Zg0(q o j m c:Nat)(root:Int)(x:Nd)(A':Option Addr)(c':Nat)(w:World)(hR:w.rangeAt q (o+j * 36) (ndC x A' c'))(hj:j<m)(hm:m≤9223372036854775807):
  Calls Tryz.prog 172 #[.agg #[.slice (some ⟨q,o,none⟩) m c,.int .i64 root],.int .i64 ((j:Int)+1)] w fun e w'=>e=.returned (.agg (ndC x A' c').toArray)∧Below w.heap.size w w':=by
 have hw:IntKind.i64.wrap ((j:Int)+1-1)=j:=by rw[IntKind.wrap_i64];omega
 have hne:((j:Int)+1==0)=false:=beq_eq_false_iff_ne.2 (by omega)
 have bT:=((BoxT.new w (some ⟨q,o,none⟩) m c root 122).bel (Zad _ (.cells zNdC 106))).ns
 have hR2:=hid (Zab (Zad _ (.cells zNdC 106)) (Zab (Zad w (.cells #[.slice (some ⟨q,o,none⟩) m c,.int .i64 root] 122)) hR))
 have hz:=hid (Vx0 (w.alloc (.cells #[.slice (some ⟨q,o,none⟩) m c,.int .i64 root] 122)) (.cells zNdC 106))
 have hun:=Tryz.underlying106
 have hiN:=hid (show (Tryz.prog.info? 106).map (·.size)=some (ndC x A' c').length by rw[ZaG];exact Zbd)
 have hiS:=hid (show (Tryz.prog.info? 106).map (·.size)=some (ndC x A' c').toArray.size by rw[Vx7,ZaG];exact Zbd)
 have hzs:=hid (show zNdC.size=(ndC x A' c').toArray.size by rw[ZbY,Vx7,ZaG])
 have hone:=hid (ZcZ x A' c')
 generalize ndC x A' c'=cs at *
 clear hR
 go_enter Tryz.func172,Tryz.ntmps172
 go_wp2_with (first
  |(with_reducible refine Zac rfl 106 rfl zNdC Zbh ?_)
  |(with_reducible refine lDr hR2.out hiN.out hun ?_)
  |((with_reducible refine stW 4 14 _ 106 zNdC ?_ ?_ ?_ ?_ ?_);(first|exact hz.out|(have e:=hz.out;simp only[Vx2]at e;exact e));exact hiS.out;exact hzs.out;exact hone.out;intro w4 hg4 hb4 hs4;try simp only[Vx2]at hg4 hb4))
 refine Vy0 (results_cell_row Tryz.results172 _ _ (w.heap.size+1) 106 _ (0,0) _ rfl hg4 hun rfl hiS.out) rfl ⟨rfl,Zrc rfl hb4⟩
theorem Zn5(A:Option Addr)(m c:Nat)(root:Int)(w:World):
  Calls Tryz.prog 172 #[.agg #[.slice A m c,.int .i64 root],.int .i64 0] w fun e w'=>e=.returned (.agg (ndC nd0 none 0).toArray)∧Below w.heap.size w w':=by
 have hz:=hid (Vx0 (w.alloc (.cells #[.slice A m c,.int .i64 root] 122)) (.cells zNdC 106))
 have hun:=Tryz.underlying106
 have hbu:=hid (show Tryz.prog.built 106 []=some (ndC nd0 none 0).toArray by kernel_rfl)
 have hiS:=hid (show (Tryz.prog.info? 106).map (·.size)=some (ndC nd0 none 0).toArray.size by rw[Vx7,ZaG];exact Zbd)
 have hzs:=hid (show zNdC.size=(ndC nd0 none 0).toArray.size by rw[ZbY,Vx7,ZaG])
 have hone:=hid (ZcZ nd0 none 0)
 generalize ndC nd0 none 0=cs at *
 go_enter Tryz.func172,Tryz.ntmps172
 go_wp2_with (first
  |(with_reducible refine Zac rfl 106 rfl zNdC Zbh ?_)
  |((with_reducible refine Zaf rfl 106 _ rfl cs.toArray [] ?_ ?_ ?_);exact hbu.out;rfl)
  |((with_reducible refine stW 4 7 _ 106 zNdC ?_ ?_ ?_ ?_ ?_);(first|exact hz.out|(have e:=hz.out;simp only[Vx2]at e;exact e));exact hiS.out;exact hzs.out;exact hone.out;intro w4 hg4 hb4 hs4;try simp only[Vx2]at hg4 hb4))
 refine Vy0 (results_cell_row Tryz.results172 _ _ (w.heap.size+1) 106 _ (0,0) _ rfl hg4 hun rfl hiS.out) rfl ⟨rfl,Zrc rfl hb4⟩
theorem Zc1(F:Nat→Prop)(A:Option Addr)(c:Nat)(ns:List Nd)(root n:Int)(w:World)(hr:Row F w A ns)(h0:0≤n)(hn:n≤ns.length)(hc:ns.length≤9223372036854775807):
  Calls Tryz.prog 170 #[.agg #[.slice A ns.length c,.int .i64 root],.int .i64 n] w fun e w'=>e=.returned (.bool (leafB ns n))∧Below w.heap.size w w':=by
 have W0:=Zad w (.cells #[.slice A ns.length c,.int .i64 root] 122)
 have bT:=(BoxT.new w A ns.length c root 122).ns
 by_cases hz:n=0
 ·subst hz
  go_enter Tryz.func170,Tryz.ntmps170
  go_wp2
  go_ret
  exact⟨Zb4 (by simp[leafB]),W0⟩
 ·obtain⟨j,hj,rfl,hx⟩:∃(j:Nat) (hj:j<ns.length),n=(j:Int)+1∧ndAt ns n=ns[j]:=by
   obtain⟨j,rfl⟩:∃j:Nat,n=(j:Int)+1:=⟨(n-1).toNat,by omega⟩
   exact⟨j,by omega,rfl,Zfn (by omega)⟩
  obtain⟨q,o,rfl,A',c',hR,_⟩:=Zb7 (hr.bel W0) hj
  have hw:IntKind.i64.wrap ((j:Int)+1-1)=j:=by rw[IntKind.wrap_i64];omega
  have hne:((j:Int)+1 !=0)=true:=bne_iff_ne.2 hz
  have hl:=Zng hR
  have hA:=hid (show leafB ns ((j:Int)+1)=ns[j].leaf by unfold leafB;rw[hx,Vy2 hz,Bool.true_and])
  generalize ns[j].leaf=lf at *
  clear hR
  go_enter Tryz.func170,Tryz.ntmps170
  go_wp2
  go_ret
  exact⟨Zb4 hA.out.symm,W0⟩
theorem ZsW(F:Nat→Prop)(A:Option Addr)(c:Nat)(ns:List Nd)(root n:Int)(w:World)(hr:Row F w A ns)(h0:0≤n)(hn:n≤ns.length)(hc:ns.length≤9223372036854775807):
  Calls Tryz.prog 277 #[.agg #[.slice A ns.length c,.int .i64 root],.int .i64 n] w fun e w'=>e=.returned (.bool (forkB ns n))∧Below w.heap.size w w':=by
 have W0:=Zad w (.cells #[.slice A ns.length c,.int .i64 root] 122)
 have bT:=(BoxT.new w A ns.length c root 122).ns
 by_cases hz:n=0
 ·subst hz
  go_enter Tryz.func277,Tryz.ntmps277
  go_wp2
  go_ret
  exact⟨Zb4 (by simp[forkB]),W0⟩
 ·obtain⟨j,hj,rfl,hx⟩:∃(j:Nat) (hj:j<ns.length),n=(j:Int)+1∧ndAt ns n=ns[j]:=by
   obtain⟨j,rfl⟩:∃j:Nat,n=(j:Int)+1:=⟨(n-1).toNat,by omega⟩
   exact⟨j,by omega,rfl,Zfn (by omega)⟩
  obtain⟨q,o,rfl,A',c',hR,_⟩:=Zb7 (hr.bel W0) hj
  have hw:IntKind.i64.wrap ((j:Int)+1-1)=j:=by rw[IntKind.wrap_i64];omega
  have hne:((j:Int)+1 !=0)=true:=bne_iff_ne.2 hz
  have hl:=Zng hR
  have hA:=hid (show forkB ns ((j:Int)+1)= !ns[j].leaf by unfold forkB;rw[hx,Vy2 hz,Bool.true_and])
  generalize ns[j].leaf=lf at *
  clear hR
  go_enter Tryz.func277,Tryz.ntmps277
  go_wp2
  go_ret
  exact⟨Zb4 hA.out.symm,W0⟩
theorem ZgJ(q o j m c:Nat)(root:Int)(x:Nd)(A':Option Addr)(c':Nat)(w:World)(hR:w.rangeAt q (o+j * 36) (ndC x A' c'))(hj:j<m)(hm:m≤9223372036854775807):
  Calls Tryz.prog 173 #[.agg #[.slice (some ⟨q,o,none⟩) m c,.int .i64 root],.int .i64 ((j:Int)+1)] w fun e w'=>e=.returned (.agg #[.int .i64 x.l,.int .i64 x.r])∧Below w.heap.size w w':=by
 have hw:IntKind.i64.wrap ((j:Int)+1-1)=j:=by rw[IntKind.wrap_i64];omega
 have bT:=((BoxT.new w (some ⟨q,o,none⟩) m c root 122).bel (Zad _ (.cells z2C 222))).ns
 have hR2:=Zab (Zad _ (.cells z2C 222)) (Zab (Zad w (.cells #[.slice (some ⟨q,o,none⟩) m c,.int .i64 root] 122)) hR)
 have hz:=hid (Vx0 (w.alloc (.cells #[.slice (some ⟨q,o,none⟩) m c,.int .i64 root] 122)) (.cells z2C 222))
 have hu2:=Tryz.underlying222
 have hL:=Yj1 hR2
 have hRr:=Ykq hR2
 have hbu:=hid (Yik x.l x.r)
 clear hR hR2
 generalize x.l=l at *
 generalize x.r=r at *
 have X:=Zag (Zad w (.cells #[.slice (some ⟨q,o,none⟩) m c,.int .i64 root] 122)) (Zad _ (.cells z2C 222))
 have hz:=hz.out
 simp only[Vx2]at hz
 replace hz:=hid hz
 go_enter Tryz.func173,Tryz.ntmps173
 go_wp2_with ((with_reducible refine Zac rfl 222 rfl z2C ZiX ?_))
 generalize hw1:(w.alloc (.cells #[.slice (some ⟨q,o,none⟩) m c,.int .i64 root] 122)).alloc (.cells z2C 222)=w1 at *
 have i0:(0:Int)≤(j:Int):=by omega
 have i1:(j:Int)<(m:Int):=by omega
 have i2:(j:Int).toNat=j:=by omega
 have i3:IntKind.i64.wrap (j:Int)=j:=by rw[IntKind.wrap_i64];omega
 go_still_tail 17,(by kernel_rfl)
 go_wp2_with (first
  |((with_reducible refine Zaf rfl 222 _ rfl #[Value.int .i64 l,.int .i64 r] [(0,.int .i64 l),(1,.int .i64 r)] ?_ ?_ ?_);exact hbu.out;rfl)
  |((with_reducible refine stW 4 21 (w.heap.size+1) 222 z2C ?_ ?_ ?_ ?_ ?_);exact hz.out;exact size2;rfl;exact Yb0 l r;intro w4 hg4 hb4 hs4))
 refine Vy0 (results_cell_row Tryz.results173 _ _ (w.heap.size+1) 222 _ (0,0) _ rfl hg4 hu2 rfl size2) rfl ⟨rfl,(X.trans ((Zao w1).mono X.size)).grown hb4 X.size (fun g e=>by injection e with e;omega)⟩
theorem ZbA:(Tryz.prog.info? 122).map (·.size)=some 2:=by kernel_rfl
theorem ZtO(x:Nd)(A:Option Addr)(c:Nat):(ndC x A c).toArray.extract 1 33=(x.k.1.map bv).toArray:=by
 apply Array.ext'
 have hl:(x.k.1.map bv).length=32:=by rw[Vx6];exact x.k.2
 simp only[Array.toList_extract,ndC,List.cons_append,List.nil_append,List.extract_eq_take_drop,List.drop_succ_cons,List.drop_zero]
 rw[List.take_append_of_le_length (by omega),List.take_of_length_le (by omega)]
theorem ZjO(x:Nd)(A:Option Addr)(c:Nat)(w:World):(Instr.field 106 (.agg (ndC x A c).toArray) 1).run Tryz.prog w=.ok (.agg (x.k.1.map bv).toArray) w:=by
 rw[← ZtO x A c]
 simp[Instr.field,underlying,Tryz.underlying106,asAgg,part,isAgg,Tryz.underlying37,sizeOf]
 rfl
theorem Ydg(a b:Int)(W:World):(Instr.index 222 (.agg #[.int .i64 a,.int .i64 b]) (.int .i64 0)).run Tryz.prog W=.ok (.int .i64 a) W:=by kernel_rfl
theorem Ydh(a b:Int)(W:World):(Instr.index 222 (.agg #[.int .i64 a,.int .i64 b]) (.int .i64 1)).run Tryz.prog W=.ok (.int .i64 b) W:=by kernel_rfl
theorem Yga(w:World)(A:Option Addr)(n c:Nat)(root a b:Int)(t u:TypeId):
  BoxT ((w.alloc (.cells #[.slice A n c,.int .i64 root] t)).alloc (.cells #[.int .i64 a,.int .i64 b] u)) w.heap.size A n c root∧((w.alloc (.cells #[.slice A n c,.int .i64 root] t)).alloc (.cells #[.int .i64 a,.int .i64 b] u)).rangeAt (w.heap.size+1) 0 [.int .i64 a,.int .i64 b]∧
  Below w.heap.size w ((w.alloc (.cells #[.slice A n c,.int .i64 root] t)).alloc (.cells #[.int .i64 a,.int .i64 b] u)):=by
 have h1:=BoxT.new w A n c root t
 have h2:=Zae (l:=[Value.int .i64 a,.int .i64 b]) (Vx0 (w.alloc (.cells #[.slice A n c,.int .i64 root] t)) (.cells #[.int .i64 a,.int .i64 b] u))
 rw[Vx2]at h2
 exact⟨h1.bel (Zad _ _),h2,Zag (Zad _ _) (Zad _ _)⟩
theorem Zi0(F:Nat→Prop)(A:Option Addr)(c:Nat)(ns:List Nd)(root a b:Int)(w:World)(hr:Row F w A ns)(ha0:0≤a)(ha:a≤ns.length)(hb0:0≤b)(hb:b≤ns.length)(hc:ns.length≤9223372036854775807):
  Calls Tryz.prog 174 #[.agg #[.slice A ns.length c,.int .i64 root],.agg #[.int .i64 a,.int .i64 b]] w fun e w'=>e=.returned (.int .i64 (singleP ns a b))∧Below w.heap.size w w':=by
 obtain⟨T0,h20,W0⟩:=Yga w A ns.length c root a b 122 222
 have hr0:=hr.bel W0
 have hut:=Tryz.underlying122
 have hu2:=Tryz.underlying222
 have hiT:=hid (show (Tryz.prog.info? 122).map (·.size)=some ([Value.slice A ns.length c,.int .i64 root]).length from ZbA)
 have hi2:=hid (show (Tryz.prog.info? 222).map (·.size)=some ([Value.int .i64 a,.int .i64 b]).length from size2)
 have hLa:=fun W hW=>Zc1 F A c ns root a W hW ha0 ha hc
 have hLb:=fun W hW=>Zc1 F A c ns root b W hW hb0 hb hc
 obtain⟨ans,hans⟩:∃ans,singleP ns a b=ans:=⟨_,rfl⟩
 rw[hans]
 unfold singleP at hans
 generalize leafB ns a=la at *
 generalize leafB ns b=lb at *
 have x0:=fun W=>Ydg a b W
 have x1:=fun W=>Ydh a b W
 replace hans:=hid hans
 replace hLa:=hid hLa
 replace hLb:=hid hLb
 clear hr
 go_enter Tryz.func174,Tryz.ntmps174
 go_wp2_with ((with_reducible refine lDr h20 hi2.out hu2 ?_))
 generalize (w.alloc (.cells #[.slice A ns.length c,.int .i64 root] 122)).alloc (.cells #[.int .i64 a,.int .i64 b] 222)=w0 at *
 go_loopw [8] (fun i wr=>∃k:Nat,k≤2∧i=.int .i64 k∧(1≤k→(la&&decide (b=0))=false)∧(2≤k→(lb&&decide (a=0))=false)∧Below w0.heap.size w0 wr) (fun i _=>2-(intOf i).toNat)
 case atStart=>exact⟨0,by omega,rfl,fun h=>by omega,fun h=>by omega,Below.refl _ _⟩
 case round=>
  obtain⟨k,hk,rfl,h1,h2,hbw⟩:=hrel
  have T1:=T0.bel hbw
  have h21:=Zab hbw h20
  have hr1:=hr0.bel hbw
  rcases (show k=0∨k=1∨k=2 by omega) with rfl|rfl|rfl
  ·clear h1 h2
   go_wp2_with ((with_reducible refine lDr T1.all hiT.out hut ?_))
   refine(hLa.out _ hr1).mono ?_
   rintro e w2 ⟨rfl,hb2⟩
   have q0:=(Zab hb2 h21) 0 _ rfl
   have q1:=(Zab hb2 h21) 1 _ rfl
   rw[Nat.zero_add]at q0 q1
   have W2:=hid (hbw.trans (hb2.mono hbw.size))
   have i1:IntKind.i64.wrap ((1:Int)-0)=1:=by decide
   cases la
   ·go_wp2
    go_roundw
    case rel=>exact⟨1,by omega,by go_num,fun _=>rfl,fun h=>by omega,W2.out⟩
    case measure=>simp[intOf]
   ·by_cases hb:b=0
    ·have e1:ans=a:=by rw[← hans.out];simp[hb]
     subst hb
     subst e1
     go_wp2
     go_ret
     exact⟨rfl,W0.trans (W2.out.mono W0.size)⟩
    ·have e2:(b==0)=false:=beq_eq_false_iff_ne.2 hb
     go_wp2
     go_roundw
     case rel=>exact⟨1,by omega,by go_num,fun _=>by simp[hb],fun h=>by omega,W2.out⟩
     case measure=>simp[intOf]
  ·have h1:=hid (h1 (by omega))
   clear h2
   go_wp2_with ((with_reducible refine lDr T1.all hiT.out hut ?_))
   refine(hLb.out _ hr1).mono ?_
   rintro e w2 ⟨rfl,hb2⟩
   have q0:=(Zab hb2 h21) 0 _ rfl
   have q1:=(Zab hb2 h21) 1 _ rfl
   rw[Nat.zero_add]at q0 q1
   have W2:=hid (hbw.trans (hb2.mono hbw.size))
   have i1:IntKind.i64.wrap ((1:Int)-1)=0:=by decide
   cases lb
   ·go_wp2
    go_roundw
    case rel=>exact⟨2,by omega,by go_num,fun _=>h1.out,fun _=>rfl,W2.out⟩
    case measure=>simp[intOf]
   ·by_cases hb:a=0
    ·have e1:ans=b:=by rw[← hans.out,if_neg (by rw[h1.out];decide)];simp[hb]
     subst hb
     subst e1
     go_wp2
     go_ret
     exact⟨rfl,W0.trans (W2.out.mono W0.size)⟩
    ·have e2:(a==0)=false:=beq_eq_false_iff_ne.2 hb
     go_wp2
     go_roundw
     case rel=>exact⟨2,by omega,by go_num,fun _=>h1.out,fun _=>by simp[hb],W2.out⟩
     case measure=>simp[intOf]
  ·have e1:ans=0:=by rw[← hans.out,if_neg (by rw[h1 (by omega)];decide),if_neg (by rw[h2 (by omega)];decide)]
   subst e1
   clear h1 h2
   go_wp2
   go_ret
   exact⟨rfl,W0.trans (hbw.mono W0.size)⟩
theorem ZcD(w:World)(A:Option Addr)(n c:Nat)(root:Int)(b:Dg)(t u:TypeId):
  BoxT ((w.alloc (.cells #[.slice A n c,.int .i64 root] t)).alloc (.cells (b.1.map bv).toArray u)) w.heap.size A n c root∧((w.alloc (.cells #[.slice A n c,.int .i64 root] t)).alloc (.cells (b.1.map bv).toArray u)).rangeAt (w.heap.size+1) 0 (b.1.map bv)∧
  Below w.heap.size w ((w.alloc (.cells #[.slice A n c,.int .i64 root] t)).alloc (.cells (b.1.map bv).toArray u)):=by
 have h1:=BoxT.new w A n c root t
 have h2:=Zae (Vx0 (w.alloc (.cells #[.slice A n c,.int .i64 root] t)) (.cells (b.1.map bv).toArray u))
 rw[Vx2]at h2
 exact⟨h1.bel (Zad _ _),h2,Zag (Zad _ _) (Zad _ _)⟩
theorem ZaS(a b:Dg)(u v:Value)(s:Nat)(hu:u=.agg (a.1.map bv).toArray)(hv:v=.agg (b.1.map bv).toArray)(hs:shared a.1 b.1=s)(w:World):
  Calls Tryz.prog 171 #[u,v] w fun e w'=>e=.returned (.int .i64 (s:Int))∧Below w.heap.size w w':=by
 subst hu hv hs
 exact ZiZ a.1 b.1 w a.2 b.2
theorem Zih(k:Dg)(d:Nat)(hd:d<256)(u:Value)(hu:u=.agg (k.1.map bv).toArray)(w:World):
  Calls Tryz.prog 175 #[u,.int .i64 (d:Int)] w fun e w'=>e=.returned (.tuple #[.agg ((turnD k d).1.map bv).toArray,.int .i64 0])∧Below w.heap.size w w':=by
 subst hu
 have h:=Zmu k.1 d w k.2
 rw[show turnV k.1 (d:Int)=turn k.1 d by unfold turnV;rw[if_pos (by omega)];rfl,show bitE (d:Int)=0 by unfold bitE;rw[if_pos (by omega)]]at h
 exact h
theorem Zvl{ns:List Nd}{e:Nat}{n:Int}{b:Dg}(h:0≤rgt ns e n b):(n=0∧rgt ns e n b=0)∨(n≠0∧(ndAt ns n).leaf=true∧rgt ns e n b=1)∨(n≠0∧(ndAt ns n).leaf=false∧rgt ns e n b=2):=by
 by_cases hz:n=0
 ·subst hz;exact .inl ⟨rfl,ZdK⟩
 ·cases hl:(ndAt ns n).leaf with
  |true=>
   refine .inr (.inl ⟨hz,rfl,?_⟩)
   rw[Zck hz hl]at h ⊢
   split at h
   ·omega
   ·rename_i q;rw[if_neg q]
  |false=>
   obtain⟨_,_,_,_,_,h5⟩:=Za2 hz hl h
   exact .inr (.inr ⟨hz,rfl,h5⟩)
theorem Zr8{ns:List Nd}{f:Nat}{l r:Int}{b b':Dg}(hno:¬(l=0∧r=0)):
  decide (0≤(if rgt ns f l b<0 then (-1:Int) else if rgt ns f r b'<0∨rgt ns f l b+rgt ns f r b'<2 then -1 else 2))=(decide (singleP ns l r=0)&&(decide (0≤rgt ns f l b)&&decide (0≤rgt ns f r b'))):=by
 by_cases ha:rgt ns f l b<0
 ·rw[if_pos ha,Vy1 (show ¬0≤rgt ns f l b by omega),Bool.false_and,Bool.and_false];rfl
 ·rw[if_neg ha,Vy2 (show 0≤rgt ns f l b by omega),Bool.true_and]
  by_cases hb:rgt ns f r b'<0
  ·rw[if_pos (.inl hb),Vy1 (show ¬0≤rgt ns f r b' by omega),Bool.and_false];rfl
  ·rw[Vy2 (show 0≤rgt ns f r b' by omega),Bool.and_true]
   have h1:=Zvl (show 0≤rgt ns f l b by omega)
   have h2:=Zvl (show 0≤rgt ns f r b' by omega)
   unfold singleP leafB
   rcases h1 with ⟨a1,a2⟩|⟨a1,a2,a3⟩|⟨a1,a2,a3⟩<;>rcases h2 with ⟨c1,c2⟩|⟨c1,c2,c3⟩|⟨c1,c2,c3⟩<;>simp_all
theorem Zjw(F:Nat→Prop)(A:Option Addr)(c:Nat)(ns:List Nd)(root:Int)(ho:Ones ns)(hc:ns.length≤9223372036854775807)(e d:Nat)(n:Int)(b:Dg)(w:World)(hd:e+d=256)(h0:0≤n)(hn:n≤ns.length)(hr:Row F w A ns)
  (ih:∀f,e=f+1→∀(n:Int) (b:Dg) (w:World),0≤n→n≤ns.length→Row F w A ns→
   Calls Tryz.prog 120 #[.agg #[.slice A ns.length c,.int .i64 root],.int .i64 n,.int .i64 ((d:Int)+1),.agg (b.1.map bv).toArray] w fun r w'=>r=.returned (.bool (decide (0≤rgt ns f n b)))∧Below w.heap.size w w'):
  Calls Tryz.prog 120 #[.agg #[.slice A ns.length c,.int .i64 root],.int .i64 n,.int .i64 (d:Int),.agg (b.1.map bv).toArray] w fun r w'=>r=.returned (.bool (decide (0≤rgt ns e n b)))∧Below w.heap.size w w':=by
 obtain⟨hb0,hk0,W0⟩:=ZcD w A ns.length c root b 122 37
 have hu:=Tryz.underlying37
 have hut:=Tryz.underlying122
 have hu2:=Tryz.underlying222
 have hiT:=hid (show (Tryz.prog.info? 122).map (·.size)=some ([Value.slice A ns.length c,.int .i64 root]).length from ZbA)
 have hi:=hid (Zaz b)
 by_cases hz:n=0
 ·subst hz
  rw[ZdK]
  go_enter Tryz.func120,Tryz.ntmps120
  go_wp2
  go_ret
  exact⟨rfl,W0⟩
 ·obtain⟨j,hj,rfl,hx,h1⟩:=Zc6 ho (by omega) hn
  have hr0:=hr.bel W0
  have hne:((j:Int)+1==0)=false:=beq_eq_false_iff_ne.2 hz
  obtain⟨ans,hans⟩:∃ans,decide (0≤rgt ns e ((j:Int)+1) b)=ans:=⟨_,rfl⟩
  rw[hans]
  have hA:=hans
  have hLf:=fun W hW=>Zc1 F A c ns root ((j:Int)+1) W hW h0 hn hc
  rw[show leafB ns ((j:Int)+1)=ns[j].leaf by unfold leafB;rw[hx,Vy2 hz,Bool.true_and]]at hLf
  cases hl:ns[j].leaf with
  |true=>
   rw[Zck hz (by rw[hx];exact hl),hx]at hA
   obtain⟨s,hs⟩:∃s,shared ns[j].k.1 b.1=s:=⟨_,rfl⟩
   rw[hs]at hA
   have hS:=fun W=>ZaS ns[j].k b _ _ s rfl rfl hs W
   rw[hl]at hLf
   replace hLf:=hid hLf
   replace hA:=hid hA
   go_enter Tryz.func120,Tryz.ntmps120
   go_wp2_with ((with_reducible refine lDr hb0.all hiT.out hut ?_))
   generalize (w.alloc (.cells #[.slice A ns.length c,.int .i64 root] 122)).alloc (.cells (b.1.map bv).toArray 37)=w0 at *
   refine(hLf.out _ hr0).mono ?_
   rintro r w5 ⟨rfl,hb5⟩
   have T5:=hb0.bel hb5
   have b5:=Zab hb5 hk0
   have r5:=hr0.bel hb5
   have W5:=hid (W0.trans (hb5.mono W0.size))
   obtain⟨q,o,hAe,A',c',hR,_⟩:=Zb7 r5 hj
   subst hAe
   have hN:=fun W (hW:W.rangeAt q (o+j * 36) (ndC ns[j] A' c'))=>Zg0 q o j ns.length c root ns[j] A' c' W hW hj hc
   have hF:=fun W=>ZjO ns[j] A' c' W
   generalize ndC ns[j] A' c'=cs at *
   generalize ns[j].k.1.map bv=dk at *
   clear hb0 hk0 hr0 hb5 hs hans
   go_wp2
   refine rgB fun hHeld=>?_
   refine' tkM 0 rfl (fun _ h=>Zab h T5.all) hut hiT.out ?_
   refine' tkP 1 rfl ?_
   refine' tkM 4 rfl (fun _ h=>Zab h b5) hu hi.out ?_
   refine' tkP 6 rfl ?_
   simp only[sQ]
   refine rdC 2 rfl (hN _ (Zab hHeld hR)) fun w7 hB hHeld=>?_
   try simp only[sQ]
   refine' tkL 3 ((.agg dk.toArray)) rfl ?_ ?_
   ·intro W hSw
    go_simp
    first|done|(simp only[hF];done)
   try simp only[sQ]
   refine rdC 5 rfl (hS _) fun w8 hB hHeld=>?_
   try simp only[sQ]
   refine' tkW 7 8 ?_
   simp only[sQ]
   refine dnN ?_
   go_wp2
   go_ret
   refine⟨Zb4 ?_,W5.out.trans (hHeld.mono W5.out.size)⟩
   rw[← hA.out]
   by_cases hsd:s<256-e
   ·rw[if_pos hsd,Vy1 (by omega)];rfl
   ·rw[if_neg hsd,Vy2 (by omega)];rfl
  |false=>
   obtain⟨k1,k2,k3,k4,k5,k6,k7⟩:=Ze0 h1 hl
   rw[hl]at hLf
   replace hLf:=hid hLf
   cases e with
   |zero=>
    rw[ZcN hz (by rw[hx];exact hl)]at hA
    obtain rfl:d=256:=by omega
    have e1:ans=false:=by rw[← hA];rfl
    subst e1
    go_enter Tryz.func120,Tryz.ntmps120
    go_wp2_with ((with_reducible refine lDr hb0.all hiT.out hut ?_))
    refine(hLf.out _ hr0).mono ?_
    rintro r w5 ⟨rfl,hb5⟩
    go_wp2
    go_ret
    exact⟨rfl,W0.trans (hb5.mono W0.size)⟩
   |succ f=>
    rw[Zhn hz (by rw[hx];exact hl),hx]at hA
    have hfd:255-f=d:=by omega
    have hd2:d<256:=by omega
    rw[hfd,Zr8 k5]at hA
    have hge:((d:Int)==256)=false:=beq_eq_false_iff_ne.2 (by omega)
    have hwd:IntKind.i64.wrap ((d:Int)+1)=d+1:=by rw[IntKind.wrap_i64];omega
    have hT:=fun W=>Zih b d hd2 _ rfl W
    have iL:=fun W=>ih f rfl ns[j].l b W k1 (by omega)
    have iR:=fun W=>ih f rfl ns[j].r (turnD b d) W k3 (by omega)
    have lt2:=hid (Zaz (turnD b d))
    have oneD:=Zay (turnD b d).1
    have z1:(((turnD b d).1.map bv).toArray).size=32:=by simp[(turnD b d).2]
    have hSg:=fun W hW=>Zi0 F A c ns root ns[j].l ns[j].r W hW k1 (by omega) k3 (by omega) hc
    have hi2:=hid (show (Tryz.prog.info? 222).map (·.size)=some ([Value.int .i64 ns[j].l,.int .i64 ns[j].r]).length from size2)
    generalize decide (0≤rgt ns f ns[j].l b)=ra at *
    generalize decide (0≤rgt ns f ns[j].r (turnD b d))=rb at *
    generalize singleP ns ns[j].l ns[j].r=sg at *
    generalize (turnD b d).1.map bv=dt at *
    generalize hdb:b.1.map bv=db at *
    clear hans ih hdb
    replace iL:=hid iL
    replace iR:=hid iR
    replace hA:=hid hA
    replace hSg:=hid hSg
    go_enter Tryz.func120,Tryz.ntmps120
    go_wp2_with ((with_reducible refine lDr hb0.all hiT.out hut ?_))
    generalize (w.alloc (.cells #[.slice A ns.length c,.int .i64 root] 122)).alloc (.cells db.toArray 37)=w0 at *
    refine(hLf.out _ hr0).mono ?_
    rintro r w5 ⟨rfl,hb5⟩
    have T5:=hb0.bel hb5
    have b5:=Zab hb5 hk0
    have r5:=hr0.bel hb5
    have W5:=hid (W0.trans (hb5.mono W0.size))
    obtain⟨q,o,hAe,A',c',hR,_⟩:=Zb7 r5 hj
    subst hAe
    have hRd:=fun W (hW:W.rangeAt q (o+j * 36) (ndC ns[j] A' c'))=>ZgJ q o j ns.length c root ns[j] A' c' W hW hj hc
    replace hR:=hid hR
    clear hb0 hk0 hr0 hb5 hLf W0
    generalize ndC ns[j] A' c'=cs at *
    generalize ns[j].l=l at *
    generalize ns[j].r=rr at *
    go_wp2_with ((with_reducible refine lDr T5.all hiT.out hut ?_))
    refine(hRd _ hR.out).mono ?_
    rintro r w6 ⟨rfl,hb6⟩
    have T6:=T5.bel hb6
    have b6:=Zab hb6 b5
    have r6:=hid (r5.bel hb6)
    have W6:=hid (W5.out.trans (hb6.mono W5.out.size))
    have e6:=hid (Vx0 w6 (.cells z2C 222))
    clear T5 b5 r5 W5 hb6 hR hRd
    go_wp2_with (first
     |(with_reducible refine Zac rfl 222 rfl z2C ZiX ?_)
     |((with_reducible refine stW 9 32 _ 222 z2C ?_ ?_ ?_ ?_ ?_);exact e6.out;exact size2;rfl;exact Yb0 l rr;intro w7 hg7 hb7 hs7;have X7:=hid (Zan rfl hb7);have T7:=T6.bel X7.out;have b7:=Zab X7.out b6;have r7:=hid (r6.out.bel X7.out);have g7:=Zae (l:=[Value.int .i64 l,.int .i64 rr]) hg7;have W7:=hid (W6.out.trans (X7.out.mono W6.out.size));clear hg7 hb7 hs7)
     |(with_reducible refine lDr T7.all hiT.out hut ?_)
     |(with_reducible refine lDr g7 hi2.out hu2 ?_))
    refine(hSg.out _ r7.out).mono ?_
    rintro r w8 ⟨rfl,hb8⟩
    have T8:=T7.bel hb8
    have b8:=Zab hb8 b7
    have r8:=hid (r7.out.bel hb8)
    have g8:=Zab hb8 g7
    have W8:=hid (W7.out.trans (hb8.mono W7.out.size))
    clear T6 b6 r6 e6 X7 T7 b7 r7 g7 W6 W7 hb8 hSg
    by_cases hsg:sg=0
    case neg=>
     have hsb:(sg !=0)=true:=bne_iff_ne.2 hsg
     have e1:ans=false:=by rw[← hA.out,Vy1 hsg,Bool.false_and]
     subst e1
     go_wp2
     go_ret
     exact⟨rfl,W8.out⟩
    subst hsg
    have hA2:=hid (show (ra&&rb)=ans by rw[← hA.out,Vy2 rfl,Bool.true_and])
    clear hA
    go_wp2_with ((with_reducible refine lDr b8 hi.out hu ?_))
    refine(hT _).mono ?_
    rintro r w9 ⟨rfl,hb9⟩
    have T9:=T8.bel hb9
    have b9:=Zab hb9 b8
    have r9:=hid (r8.out.bel hb9)
    have g9:=Zab hb9 g8
    have W9:=hid (W8.out.trans (hb9.mono W8.out.size))
    have e9:=hid (Vx0 w9 (.cells z32 37))
    clear T8 b8 r8 g8 W8 hb9 hT
    go_wp2_with (first
     |(with_reducible refine Zac rfl 37 rfl z32 Zam ?_)
     |((with_reducible refine stW 10 41 _ 37 z32 ?_ ?_ ?_ ?_ ?_);exact e9.out;(rw[z1];exact Zai);(rw[z1];exact z32_size);exact oneD;intro w10 hg10 hb10 hs10;have X10:=hid (Zan rfl hb10);have T10:=T9.bel X10.out;have b10:=Zab X10.out b9;have r10:=hid (r9.out.bel X10.out);have g10:=Zab X10.out g9;have q0:=g10 0 _ rfl;rw[Nat.zero_add]at q0;have d10:=Zae hg10;have W10:=hid (W9.out.trans (X10.out.mono W9.out.size));clear hg10 hb10 hs10)
     |(with_reducible refine lDr T10.all hiT.out hut ?_)
     |(with_reducible refine lDr b10 hi.out hu ?_))
    refine(iL.out _ r10.out).mono ?_
    rintro r w11 ⟨rfl,hb11⟩
    have T11:=T10.bel hb11
    have r11:=hid (r10.out.bel hb11)
    have q1:=(Zab hb11 g10) 1 _ rfl
    rw[Nat.zero_add]at q1
    have d11:=Zab hb11 d10
    have W11:=hid (W10.out.trans (hb11.mono W10.out.size))
    clear T9 b9 r9 g9 W9 e9 X10 T10 b10 r10 g10 q0 d10 W10 hb11 iL
    cases ra
    ·have e1:ans=false:=by rw[← hA2.out,Bool.false_and]
     subst e1
     go_wp2
     go_ret
     exact⟨rfl,W11.out⟩
    ·have e1:rb=ans:=by rw[← hA2.out,Bool.true_and]
     subst e1
     go_wp2_with (first
      |(with_reducible refine lDr T11.all hiT.out hut ?_)
      |(with_reducible refine lDr d11 lt2.out hu ?_))
     refine(iR.out _ r11.out).mono ?_
     rintro r w12 ⟨rfl,hb12⟩
     go_wp2
     go_ret
     exact⟨rfl,W11.out.trans (hb12.mono W11.out.size)⟩
theorem Zlm(F:Nat→Prop)(A:Option Addr)(c:Nat)(ns:List Nd)(root:Int)(ho:Ones ns)(hc:ns.length≤9223372036854775807):∀(e d:Nat) (n:Int) (b:Dg) (w:World),e+d=256→0≤n→n≤ns.length→Row F w A ns→
  Calls Tryz.prog 120 #[.agg #[.slice A ns.length c,.int .i64 root],.int .i64 n,.int .i64 (d:Int),.agg (b.1.map bv).toArray] w fun r w'=>r=.returned (.bool (decide (0≤rgt ns e n b)))∧Below w.heap.size w w'
 |0,d,n,b,w,hd,h0,hn,hr=>Zjw F A c ns root ho hc 0 d n b w hd h0 hn hr fun f hf=>by omega
 |e+1,d,n,b,w,hd,h0,hn,hr=>Zjw F A c ns root ho hc (e+1) d n b w hd h0 hn hr fun f hf n b w h0 hn hr=>by
  obtain rfl:e=f:=by omega
  have:=Zlm F A c ns root ho hc e (d+1) n b w (by omega) h0 hn hr
  exact this
theorem ZfI(A:Option Addr)(n c:Nat)(root:Int):Tryz.prog.built 122 [(0,.agg #[.slice A n c,.int .i64 root])]=some #[Value.slice A n c,.int .i64 root]:=by kernel_rfl
theorem YiN(x:Nd)(A A2:Option Addr)(c c2:Nat):(ndC x A c).toArray.setIfInBounds 33 (.slice A2 x.v.length c2)=(ndC x A2 c2).toArray:=by
 apply Array.ext'
 have hl:(x.k.1.map bv).length=32:=by rw[Vx6];exact x.k.2
 simp only[Array.toList_setIfInBounds,ndC,List.cons_append,List.nil_append,List.set_cons_succ]
 rw[List.set_append_right _ _ (by omega),hl]
 rfl
theorem ZeB(F:Nat→Prop)(A:Option Addr)(c:Nat)(ns:List Nd)(root:Int)(w:World)(hr:Row F w A ns)(hc:ns.length≤9223372036854775807):
  Calls Tryz.prog 79 #[.agg #[.slice A ns.length c,.int .i64 root]] w fun e w'=>e=.returned (.int .i64 (if mayT ⟨ns,root⟩=true then 0 else 8))∧Below w.heap.size w w':=by
 obtain⟨ans,ha⟩:∃ans:Int,(if mayT ⟨ns,root⟩=true then 0 else 8)=ans:=⟨_,rfl⟩
 rw[ha]
 have no:¬(ns.length≤262144∧0≤root∧root≤ns.length∧Ones ns∧0≤rgt ns 256 root z0)→8=ans:=fun h=>by rw[← ha,if_neg (fun q=>h (ZaX.1 q))]
 have yes:ns.length≤262144→0≤root→root≤ns.length→Ones ns→(if decide (0≤rgt ns 256 root z0)=true then 0 else 8)=ans:=fun h1 h2 h3 h4=>by
  rw[← ha]
  unfold mayT
  simp[h1,h2,h3,h4]
 replace no:=hid no
 replace yes:=hid yes
 clear ha
 have T0:=BoxT.new w A ns.length c root 24
 have W0:=Zad w (.cells #[.slice A ns.length c,.int .i64 root] 24)
 have hr0:=hr.bel W0
 have y0:=T0.ns
 have y1:=T0.rt
 have hut:=Tryz.underlying24
 have hun:=Tryz.underlying106
 have hiT:=hid (show (Tryz.prog.info? 24).map (·.size)=some ([Value.slice A ns.length c,.int .i64 root]).length from Zah)
 have hz:=hid Zes
 have hbt:=hid (ZfI A ns.length c root)
 by_cases h1:262144<ns.length
 ·have no:=hid (no.out (by omega))
  go_enter Tryz.func79,Tryz.ntmps79
  go_wp2
  go_ret
  exact⟨ZiT no.out,W0⟩
 by_cases h2:root<0
 ·have no:=hid (no.out (by omega))
  go_enter Tryz.func79,Tryz.ntmps79
  go_wp2
  go_ret
  exact⟨ZiT no.out,W0⟩
 by_cases h3:(ns.length:Int)<root
 ·have no:=hid (no.out (by omega))
  go_enter Tryz.func79,Tryz.ntmps79
  go_wp2
  go_ret
  exact⟨ZiT no.out,W0⟩
 have q1:decide ((262144:Int)<(ns.length:Int))=false:=Vy1 (by omega)
 have q2:decide (root<0)=false:=Vy1 (by omega)
 have q3:decide ((ns.length:Int)<root)=false:=Vy1 (by omega)
 clear hr
 go_enter Tryz.func79,Tryz.ntmps79
 go_wp2
 generalize w.alloc (.cells #[.slice A ns.length c,.int .i64 root] 24)=w0 at *
 go_loopw [25] (fun i wr=>∃k:Nat,k≤ns.length∧i=.int .i64 k∧(∀ i (h:i<ns.length),i<k→oneN ns[i] i=true)∧Below w0.heap.size w0 wr) (fun i _=>ns.length-(intOf i).toNat)
 case atStart=>exact⟨0,Nat.zero_le _,rfl,fun i _ hi=>absurd hi (by omega),Below.refl _ _⟩
 case round=>
  obtain⟨k,hk,rfl,hrel,hbw⟩:=hrel
  have T1:=T0.bel hbw
  have y2:=T1.ns
  have y3:=T1.rt
  have hr1:=hr0.bel hbw
  by_cases hlt:k<ns.length
  ·obtain⟨q,o,hAe,A',c',hR,hv1,hv2,hv3,hI1,hI2⟩:=Zb7 hr1 hlt
   subst hAe
   have hiN:=hid (show (Tryz.prog.info? 106).map (·.size)=some (ndC ns[k] A' c').length by rw[ZaG];exact Zbd)
   have hiS:=hid (show (Tryz.prog.info? 106).map (·.size)=some (ndC ns[k] A' c').toArray.size by rw[Vx7,ZaG];exact Zbd)
   have hzs:=hid (show zNdC.size=(ndC ns[k] A' c').toArray.size by rw[ZbY,Vx7,ZaG])
   have hone:=hid (ZcZ ns[k] A' c')
   have hz9:=hid (Vx0 wr (.cells zNdC 106))
   have hO:=fun W (hW:Row F W A' ns[k].v)=>Zo4 F ns[k] A' c' k W hW hv1 hv2 (by omega)
   have hnext:oneN ns[k] k=true→∀i (h:i<ns.length),i<k+1→oneN ns[i] i=true:=fun h i hi hi2=>by
    rcases Nat.lt_or_ge i k with h3|h3
    ·exact hrel i hi h3
    ·obtain rfl:i=k:=by omega
     exact h
   have hbad:oneN ns[k] k=false→8=ans:=fun h=>no.out fun q=>by have:=q.2.2.2.1 k hlt;rw[h]at this;cases this
   have hwk:IntKind.i64.wrap ((k:Int)+1)=k+1:=by rw[IntKind.wrap_i64];omega
   generalize oneN ns[k] k=ok at *
   generalize ndC ns[k] A' c'=cs at *
   replace hnext:=hid hnext
   replace hbad:=hid hbad
   replace hrel:=trivial
   replace hR:=hid hR
   replace hv3:=hid hv3
   go_wp2_with (first
    |(with_reducible refine Zac rfl 106 rfl zNdC Zbh ?_)
    |(with_reducible refine lDr hR.out hiN.out hun ?_)
    |((with_reducible refine stW 4 29 _ 106 zNdC ?_ ?_ ?_ ?_ ?_);exact hz9.out;exact hiS.out;exact hzs.out;exact hone.out;intro w4 hg4 hb4 hs4;have X4:=hid (Zan rfl hb4);have g4:=Zae hg4;clear hg4 hb4 hs4)
    |(with_reducible refine lDr g4 hiN.out hun ?_))
   refine(hO _ (hv3.out.bel X4.out)).mono ?_
   rintro e w5 ⟨rfl,hb5⟩
   have W5:=hid (hbw.trans ((X4.out.trans (hb5.mono X4.out.size)).mono hbw.size))
   cases ok
   ·have no:=hid (hbad.out rfl)
    clear hbad
    go_wp2
    go_ret
    exact⟨ZiT no.out,W0.trans (W5.out.mono W0.size)⟩
   ·go_wp2
    go_roundw
    case rel=>exact⟨k+1,by omega,by go_num,hnext.out (by trivial),W5.out⟩
    case measure=>simp[intOf];omega
  ·obtain rfl:k=ns.length:=by omega
   have ho:Ones ns:=fun i hi=>hrel i hi hi
   have hR:=fun W hW=>Zlm F A c ns root ho hc 256 0 root z0 W rfl (by omega) (by omega) hW
   have hy:=yes.out (by omega) (by omega) (by omega) ho
   generalize decide (0≤rgt ns 256 root z0)=rv at *
   generalize z0.1.map bv=dz at *
   replace hR:=hid hR
   replace hr1:=hid hr1
   replace hrel:=trivial
   replace hy:=hid hy
   go_wp2_with (first
    |(with_reducible refine lDr T1.all hiT.out hut ?_)
    |((with_reducible refine Zaf rfl 37 _ rfl dz.toArray [] ?_ ?_ ?_);exact hz.out;rfl)
    |((with_reducible refine Zaf rfl 122 _ rfl #[Value.slice A ns.length c,.int .i64 root] [(0,.agg #[.slice A ns.length c,.int .i64 root])] ?_ ?_ ?_);exact hbt.out;rfl))
   refine(hR.out _ hr1.out).mono ?_
   rintro e w2 ⟨rfl,hb2⟩
   have W2:=hid (W0.trans ((hbw.trans (hb2.mono hbw.size)).mono W0.size))
   cases rv
   ·go_wp2
    go_ret
    exact⟨ZiT (by have:=hy.out;simpa using this),W2.out⟩
   ·go_wp2
    go_ret
    exact⟨ZiT (by have:=hy.out;simpa using this),W2.out⟩
theorem ZdG(F:Nat→Prop)(A:Option Addr)(c:Nat)(ns:List Nd)(root:Int)(m:Bool)(w:World)(hr:Row F w A ns)(hc:ns.length≤9223372036854775807)(hm:mayT ⟨ns,root⟩=m):
  Calls Tryz.prog 79 #[.agg #[.slice A ns.length c,.int .i64 root]] w fun e w'=>e=.returned (.int .i64 (if m=true then 0 else 8))∧Below w.heap.size w w':=by
 subst hm
 exact ZeB F A c ns root w hr hc
theorem Zjz(x:Nd)(A:Option Addr)(c:Nat)(w:World)(hr:Rd w A x.v)(hl:x.v.length≤1000000):
  Calls Tryz.prog 112 #[.agg (ndC x A c).toArray] w fun e w'=>∃A' c',e=.returned (.agg (ndC x A' c').toArray)∧Own 5 w' w.heap.size A' c' x.v∧Below w.heap.size w w':=by
 have W0:=Zag (Zad w (.cells (ndC x A c).toArray 106)) (Zad _ (.cells zNdC 106))
 have b0:=(BoxN.new w x A c 106).bel (Zad _ (.cells zNdC 106))
 have h0:=((Zad (w.alloc (.cells (ndC x A c).toArray 106)) (.cells zNdC 106)).block w.heap.size (by simp)).trans (Vx0 w (.cells (ndC x A c).toArray 106))
 have h1:=Vx0 (w.alloc (.cells (ndC x A c).toArray 106)) (.cells zNdC 106)
 rw[Vx2]at h1
 have hr0:=hr.bel W0
 have hsz:((w.alloc (.cells (ndC x A c).toArray 106)).alloc (.cells zNdC 106)).heap.size=w.heap.size+2:=by simp
 replace hsz:=hid hsz
 have hy:=b0.val
 have hS:=fun A2 c2=>YiN x A A2 c c2
 have hun:=Tryz.underlying106
 have hiN:=fun A2 c2=>hid (show (Tryz.prog.info? 106).map (·.size)=some (ndC x A2 c2).length by rw[ZaG];exact Zbd)
 have hiS:=fun A2 c2=>hid (show (Tryz.prog.info? 106).map (·.size)=some (ndC x A2 c2).toArray.size by rw[Vx7,ZaG];exact Zbd)
 have hzs:=fun A2 c2=>hid (show zNdC.size=(ndC x A2 c2).toArray.size by rw[ZbY,Vx7,ZaG])
 have hone:=fun A2 c2=>hid (ZcZ x A2 c2)
 replace h0:=hid h0
 replace h1:=hid h1
 replace hS:=hid hS
 clear hr b0
 go_enter Tryz.func112,Tryz.ntmps112
 go_wp2_with ((with_reducible refine Zac rfl 106 rfl zNdC Zbh ?_))
 generalize (w.alloc (.cells (ndC x A c).toArray 106)).alloc (.cells zNdC 106)=w0 at *
 refine(Zbs A x.v.length c x.v _ hr0 rfl hl).mono ?_
 rintro e w1 ⟨A2,c2,rfl,ho,hb⟩
 have g0:=(hb.block _ (block_lt h0.out)).trans h0.out
 have g1:=(hb.block _ (block_lt h1.out)).trans h1.out
 have hf:=Zap g0 33
 have hc1:=(hb.cell (Vx5 _ _ hy)).trans hy
 have g2:=ZaD g0 33 (.slice A2 x.v.length c2)
 rw[hS.out]at g2
 have g3:=hid ((Vy3 w1 ⟨w.heap.size,33,none⟩ (.slice A2 x.v.length c2) (w.heap.size+1) (by simp)).trans g1)
 have s2:=hid (Zae g2)
 have B1:=hid (W0.trans (hb.mono W0.size))
 have B2:=hid (B1.out.setCell (p:=⟨w.heap.size,33,none⟩) (Vx8 _) (.slice A2 x.v.length c2))
 have o2:=hid ho
 have lt0:=hid (block_lt h0.out)
 clear g0 g1 g2 h0 h1 hS hy ho hb
 go_wp2_with (first
  |(with_reducible refine lDr s2.out (hiN A2 c2).out hun ?_)
  |((with_reducible refine stW 2 7 (w.heap.size+1) 106 zNdC ?_ ?_ ?_ ?_ ?_);exact g3.out;exact(hiS A2 c2).out;exact(hzs A2 c2).out;exact(hone A2 c2).out;intro w4 hg4 hb4 hs4))
 refine Vy0 (results_cell_row Tryz.results112 _ _ (w.heap.size+1) 106 _ (0,0) _ rfl hg4 hun rfl (hiS A2 c2).out) rfl ⟨_,_,rfl,?_,B2.out.grown hb4 B2.out.size (fun g e=>by injection e with e;omega)⟩
 have o3:Own 5 (w1.setCell ⟨w.heap.size,33,none⟩ (.slice A2 x.v.length c2)) w0.heap.size A2 c2 x.v:=ownsRow_setCell_below o2.out (by rw[hsz.out];simp) _
 exact(o3.kept hb4 fun a ha e=>by have:=(o2.out.blk a ha).1;injection e with e;rw[hsz.out]at this;omega).base (by rw[hsz.out];omega)
end Go.Proofs.YtnnclggeifnomaaGreatDoor
