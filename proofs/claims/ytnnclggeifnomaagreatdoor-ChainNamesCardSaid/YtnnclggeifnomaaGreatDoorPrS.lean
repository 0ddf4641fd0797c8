import Derived.Test.YtnnclggeifnomaaGreatDoorPrA
set_option maxRecDepth 100000
set_option linter.all false
set_option maxHeartbeats 1600000
namespace Go.Proofs.YtnnclggeifnomaaGreatDoor
open Go.RowKit
theorem Zqp(A1 A2:Option Addr)(c1 c2:Nat)(l1 l2:List UInt8)(b:Bool)(w:World)(h1:Rd w A1 l1)(h2:Rd w A2 l2)(he:decide (l1=l2)=b):
  Calls Tryz.prog 161 #[Value.slice A1 l1.length c1,.slice A2 l2.length c2] w fun e w'=>e=.returned (.bool b)∧w=w':=by
 have k1:=ZbJ u8s ZdD 9 Zb6 h1 l1.length c1 rfl
 have k2:=ZbJ u8s ZdD 9 Zb6 h2 l2.length c2 rfl
 have ht:((bstr l1).toList==(bstr l2).toList)=b:=by
  rw[← he,Zb1,Zb1]
  by_cases h:l1=l2<;>simp[h]
 clear he h1 h2
 generalize l1.length=n1 at *
 generalize l2.length=n2 at *
 go_enter Tryz.func161,Tryz.ntmps161
 go_wp2
 go_ret
 exact⟨rfl,rfl⟩
theorem Ygt(a b:Dg)(eb:Bool)(h:decide (a=b)=eb)(w:World):(Op.equalIn 10000 37 (.agg (a.1.map bv).toArray) (.agg (b.1.map bv).toArray)).run Tryz.prog w=.ok eb w:=by
 rw[Zpo a.1 b.1 a.2 b.2 w]
 congr 1
 rw[← h]
 exact decide_eq_decide.2 ⟨fun e=>Subtype.ext e,fun e=>by rw[e]⟩
set_option maxRecDepth 100000 in
theorem ZqF(k1 k2:Dg)(v1 v2:List UInt8)(A1 A2:Option Addr)(c1 c2:Nat)(b:Bool)(w:World)(h1:Rd w A1 v1)(h2:Rd w A2 v2)(hb:decide ((⟨k1,v1⟩:Pr)=⟨k2,v2⟩)=b):
  Calls Tryz.prog 199 #[.agg (k1.1.map bv++[Value.slice A1 v1.length c1]).toArray,.agg (k2.1.map bv++[Value.slice A2 v2.length c2]).toArray] w fun e w'=>e=.returned (.bool b)∧Below w.heap.size w w':=by
 have hu:=Tryz.underlying37
 have hi1:=hid (Zfp k1)
 have hi2:=hid (Zfp k2)
 have d1:=Vx0 w (.cells (k1.1.map bv++[Value.slice A1 v1.length c1]).toArray 43)
 have d2:=Vx0 (w.alloc (.cells (k1.1.map bv++[Value.slice A1 v1.length c1]).toArray 43)) (.cells (k2.1.map bv++[Value.slice A2 v2.length c2]).toArray 43)
 have d3:=(Below.heap_alloc (w.alloc (.cells (k1.1.map bv++[Value.slice A1 v1.length c1]).toArray 43)) (.cells (k2.1.map bv++[Value.slice A2 v2.length c2]).toArray 43) w.heap.size (by simp)).trans d1
 rw[Vx2]at d2
 have B2:=Zag (Zad w (.cells (k1.1.map bv++[Value.slice A1 v1.length c1]).toArray 43)) (Zad _ (.cells (k2.1.map bv++[Value.slice A2 v2.length c2]).toArray 43))
 have p1:=ZeW d3
 have p2:=ZeW d2
 have q1:=p1.1
 have q2:=p2.1
 have r1:=hid p1.2.1
 have r2:=hid p2.2.1
 have hr1:=h1.bel B2
 have hr2:=h2.bel B2
 obtain⟨eb,heb⟩:∃eb,decide (k1=k2)=eb:=⟨_,rfl⟩
 obtain⟨vb,hvb⟩:∃vb,decide (v1=v2)=vb:=⟨_,rfl⟩
 have hE:∀W,(Op.equalIn 10000 37 (.agg (k1.1.map bv).toArray) (.agg (k2.1.map bv).toArray)).run Tryz.prog W=.ok eb W:=fun W=>Ygt k1 k2 eb heb W
 have hB:b=(eb&&vb):=by
  rw[← hb,←heb,←hvb]
  by_cases e1:k1=k2<;>by_cases e2:v1=v2<;>simp[e1,e2]
 clear d1 d2 d3 p1 p2 h1 h2 hb heb
 replace hvb:=hid hvb
 generalize hds1:k1.1.map bv++[Value.slice A1 v1.length c1]=ds1 at *
 generalize hds2:k2.1.map bv++[Value.slice A2 v2.length c2]=ds2 at *
 replace hds1:=hid hds1
 replace hds2:=hid hds2
 have z1:=k1.2
 have z2:=k2.2
 cases eb
 ·rw[Bool.false_and]at hB
  subst hB
  go_enter Tryz.func199,Tryz.ntmps199
  go_wp2_with (first
   |(with_reducible refine lDr r1.out hi1.out hu ?_)
   |(with_reducible refine lDr r2.out hi2.out hu ?_))
  go_ret
  exact⟨rfl,B2⟩
 ·rw[Bool.true_and]at hB
  subst hB
  go_enter Tryz.func199,Tryz.ntmps199
  go_wp2_with (first
   |(with_reducible refine lDr r1.out hi1.out hu ?_)
   |(with_reducible refine lDr r2.out hi2.out hu ?_)
   |(go_at_call 161;refine(Zqp A1 A2 c1 c2 v1 v2 b _ hr1 hr2 hvb.out).mono ?_;rintro e w3 ⟨rfl,rfl⟩))
  go_ret
  exact⟨rfl,B2⟩
theorem Zqg{ps qs:List Pr}{j:Nat}(h1:j<ps.length)(h2:j<qs.length)(h:ps.take j=qs.take j):ps.take (j+1)=qs.take (j+1)↔ps[j]=qs[j]:=by
 rw[Vy5 h1,Vy5 h2,h]
 constructor
 ·intro e
  have:=List.append_cancel_left e
  simpa using this
 ·intro e
  rw[e]
set_option maxRecDepth 100000 in
theorem ZnT(F G:Nat→Prop)(A D:Option Addr)(c d:Nat)(ps qs:List Pr)(w:World)(hr:Row F w A ps)(hs:Row G w D qs)(hc:ps.length≤9223372036854775807)(hd:qs.length≤9223372036854775807):
  Calls Tryz.prog 198 #[.slice A ps.length c,.slice D qs.length d,.func (.func 199) #[] #[]] w fun e w'=>e=.returned (.bool (decide (ps=qs)))∧Below w.heap.size w w':=by
 obtain⟨ans,ha⟩:∃ans,decide (ps=qs)=ans:=⟨_,rfl⟩
 rw[ha]
 replace ha:=hid ha
 by_cases hl:ps.length=qs.length
 ·have hl2:=hid hl
  rw[← hl]at hd ⊢
  replace hl:=hl2
  clear hl2
  go_enter Tryz.func198,Tryz.ntmps198
  go_wp2
  go_loopw [17] (fun i wr=>∃j:Nat,j≤ps.length∧i=.int .i64 j∧ps.take j=qs.take j∧Below w.heap.size w wr) (fun i _=>ps.length-(intOf i).toNat)
  case atStart=>exact⟨0,Nat.zero_le _,rfl,by simp,Below.refl _ _⟩
  case round=>
   obtain⟨j,hj,rfl,hrel,hb⟩:=hrel
   by_cases hlt:j<ps.length
   ·have hlt2:j<qs.length:=by rw[← hl.out];exact hlt
    have E:=hid (Zqg hlt hlt2 hrel)
    replace hrel:=hid hrel
    have hu2:=Tryz.underlying43
    obtain⟨b,o,hA,-,A',c',-,r1,h1,h2,h3⟩:=ZcO (hr.bel hb) hlt
    obtain⟨b',o',hD,-,D',d',-,r2,h4,h5,h6⟩:=ZcO (hs.bel hb) hlt2
    have hrd:=h3.rd
    have hrd2:=h6.rd
    subst hA hD
    have hs1:=hid (Zjo ps[j].k (.slice A' ps[j].v.length c'))
    have hlen1:Hid ((ps[j].k.1.map bv++[Value.slice A' ps[j].v.length c']).length=33):=Zbq _ _
    have hone1:Hid ((ps[j].k.1.map bv++[Value.slice A' ps[j].v.length c']).toArray.all (·.oneCell')=true):=all_oneCell_toArray (Enc.one (ZcL (F:=F) (w:=wr) ps[j].k ps[j].v A' c' h1 h2 h3))
    have hs2:=hid (Zjo qs[j].k (.slice D' qs[j].v.length d'))
    have hlen2:Hid ((qs[j].k.1.map bv++[Value.slice D' qs[j].v.length d']).length=33):=Zbq _ _
    have hone2:Hid ((qs[j].k.1.map bv++[Value.slice D' qs[j].v.length d']).toArray.all (·.oneCell')=true):=all_oneCell_toArray (Enc.one (ZcL (F:=G) (w:=wr) qs[j].k qs[j].v D' d' h4 h5 h6))
    have hp1:ps[j]=⟨ps[j].k,ps[j].v⟩:=rfl
    have hp2:qs[j]=⟨qs[j].k,qs[j].v⟩:=rfl
    rw[hp1,hp2]at E
    obtain⟨eb,heb⟩:∃eb,decide ((⟨ps[j].k,ps[j].v⟩:Pr)=⟨qs[j].k,qs[j].v⟩)=eb:=⟨_,rfl⟩
    have hno:eb=false→ans=false:=by
     intro h
     rw[← ha.out,Vy1]
     intro e
     have:=E.out.1 (by rw[e])
     rw[h]at heb
     exact absurd this (of_decide_eq_false heb)
    have hyes:eb=true→ps.take (j+1)=qs.take (j+1):=fun h1=>E.out.2 (of_decide_eq_true (heb.trans h1))
    replace hno:=hid hno
    replace hyes:=hid hyes
    replace heb:=hid heb
    clear E h3 h6 hr hs hp1 hp2
    generalize ps[j].k=k1 at *
    generalize qs[j].k=k2 at *
    generalize ps[j].v=v1 at *
    generalize qs[j].v=v2 at *
    have hbs:=hb.size
    go_wp2_with (first
     |(with_reducible refine lDr r1 hs1.out hu2 ?_)
     |(with_reducible refine lDr (Zab (ZfZ hb4) r2) hs2.out hu2 ?_)
     |(with_reducible refine lDr (Zab (ZfZ hb5) (ZeW hg4).2.2) hs1.out hu2 ?_)
     |(with_reducible refine lDr ((ZeW hg5).2.2) hs2.out hu2 ?_)
     |(with_reducible refine Zac rfl 43 rfl zPrC ZnQ ?_)
     |((with_reducible refine wpList_store_row rfl 43 (.tmp 8) (.tmp 21) rfl wr.heap.size (k1.1.map bv++[Value.slice A' v1.length c']:List Value).toArray rfl ?_ 43 zPrC ?_ ?_ ?_ ?_ ?_);rfl;exact Vx0 wr _;exact hs1.out;exact zSizePr.trans hlen1.out.symm;exact hone1.out;intro w4 hg4 hb4 hs4;clear hs4)
     |((with_reducible refine wpList_store_row rfl 43 (.tmp 9) (.tmp 25) rfl w4.heap.size (k2.1.map bv++[Value.slice D' v2.length d']:List Value).toArray rfl ?_ 43 zPrC ?_ ?_ ?_ ?_ ?_);rfl;exact Vx0 w4 _;exact hs2.out;exact zSizePr.trans hlen2.out.symm;exact hone2.out;intro w5 hg5 hb5 hs5;clear hs5))
    have B4:=ZfZ hb4
    have B5:=ZfZ hb5
    have B05:=B4.trans (B5.mono B4.size)
    have B1:=hid (hb.trans (B05.mono hbs))
    have hrd5:=hrd.bel B05
    have hrd25:=hrd2.bel B05
    clear hg4 hb4 hg5 hb5 r1 r2 hone1 hone2 hlen1 hlen2 hrd hrd2
    refine(ZqF k1 k2 v1 v2 A' D' c' d' eb w5 hrd5 hrd25 heb.out).mono ?_
    rintro e w6 ⟨rfl,hb6⟩
    have B16:=B1.out.trans (hb6.mono B1.out.size)
    cases eb
    ·replace hno:=hid (hno.out rfl)
     go_wp2
     go_ret
     exact⟨Zb4 hno.out.symm,B16⟩
    ·replace hyes:=hid (hyes.out rfl)
     go_wp2
     go_roundw
     case rel=>exact⟨j+1,by omega,by go_num,hyes.out,B16⟩
     case measure=>simp[intOf];omega
   ·obtain rfl:j=ps.length:=by omega
    have hans:ans=true:=by
     rw[← ha.out,Vy2]
     rw[List.take_length]at hrel
     rw[hrel,hl.out,List.take_length]
    replace hans:=hid hans
    replace hrel:=hid hrel
    go_wp2
    go_ret
    exact⟨Zb4 hans.out.symm,hb⟩
 ·have hans:ans=false:=by
   rw[← ha.out,Vy1]
   intro e
   exact hl (by rw[e])
  subst hans
  go_enter Tryz.func198,Tryz.ntmps198
  go_wp2
  go_ret
  exact⟨rfl,Below.refl _ _⟩
theorem Zn8(F G:Nat→Prop)(A D:Option Addr)(c d n m:Nat)(ps qs:List Pr)(w:World)(hr:Row F w A ps)(hs:Row G w D qs)(hn:n=ps.length)(hm:m=qs.length)(hc:ps.length≤9223372036854775807)(hd:qs.length≤9223372036854775807):
  Calls Tryz.prog 146 #[.slice A n c,.slice D m d] w fun e w'=>e=.returned (.bool (decide (ps=qs)))∧Below w.heap.size w w':=by
 subst hn hm
 obtain⟨ans,ha⟩:∃ans,decide (ps=qs)=ans:=⟨_,rfl⟩
 have hE:=ZnT F G A D c d ps qs w hr hs hc hd
 rw[ha]at hE ⊢
 clear ha
 replace hE:=hid hE
 go_enter Tryz.func146,Tryz.ntmps146
 go_wp2_with fail
 refine hE.out.mono ?_
 rintro e w1 ⟨rfl,hb⟩
 go_wp2
 go_ret
 exact⟨rfl,hb⟩
end Go.Proofs.YtnnclggeifnomaaGreatDoor
