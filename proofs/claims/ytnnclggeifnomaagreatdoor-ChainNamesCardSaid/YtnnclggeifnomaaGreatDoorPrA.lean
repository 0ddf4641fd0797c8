import Derived.Test.YtnnclggeifnomaaGreatDoorRoad
set_option maxRecDepth 100000
set_option linter.all false
namespace Go.Proofs.YtnnclggeifnomaaGreatDoor
open Go.RowKit
theorem Zfp(k:Dg):(Tryz.prog.info? 37).map (·.size)=some (k.1.map bv).length:=by rw[Vx6,k.2];exact Zai
theorem Zjo(k:Dg)(x:Value):(Tryz.prog.info? 43).map (·.size)=some (k.1.map bv++[x]).length:=by
 have h:=slotPr.info
 rw[Zbq]
 cases hi:Tryz.prog.info? 43 with
 |none=>rw[hi]at h;cases h
 |some i=>
  rw[hi]at h
  simp at h
  simp[h.2.1]
theorem Zb4{a b:Bool}(h:a=b):Ending.returned (.bool a)=.returned (.bool b):=by rw[h]
theorem ZiT{k:IntKind}{a b:Int}(h:a=b):Ending.returned (.int k a)=.returned (.int k b):=by rw[h]
theorem ZnQ:(Tryz.prog.info? 43).map (fun i=>(i.zero,i.size))=some (some (.agg zPrC),zPrC.size):=by kernel_rfl
theorem zSizePr:zPrC.size=33:=by decide +kernel
theorem ZfS(v:List UInt8)(A:Option Addr)(c:Nat)(b:Bool)(w:World)(hc:v.length≤9223372036854775807)(hb:valB v=b):
  Calls Tryz.prog 83 #[.slice A v.length c] w fun e w'=>e=.returned (.bool b)∧w=w':=by
 subst hb
 have e:valB v=decide (1≤v.length∧v.length≤64):=rfl
 rw[e]
 clear e
 generalize v.length=n at *
 go_enter Tryz.func83,Tryz.ntmps83
 by_cases h1:1≤n
 ·by_cases h2:n≤64
  ·go_wp2
   go_ret
   exact⟨Zb4 (by simp[h1,h2];omega),rfl⟩
  ·go_wp2
   go_ret
   exact⟨Zb4 (by simp[h1,h2];omega),rfl⟩
 ·go_wp2
  go_ret
  exact⟨Zb4 (by simp),rfl⟩
theorem Zqs(a b:Dg)(u v:Value)(ans:Bool)(w:World)(hu:u=.agg (a.1.map bv).toArray)(hv:v=.agg (b.1.map bv).toArray)(ha:ahead a.1 b.1=ans):
  Calls Tryz.prog 84 #[u,v] w fun r w'=>r=.returned (.bool ans)∧Below w.heap.size w w':=by
 subst hu hv ha
 exact Zkv a.1 b.1 w a.2 b.2
theorem ZeW{w:World}{g:Nat}{k:Dg}{x:Value}{t:TypeId}(h:w.heap[g]? =some (.cells (k.1.map bv++[x]).toArray t (0,0))):
  w.cell? ⟨g,32,none⟩=some x∧w.rangeAt g 0 (k.1.map bv)∧w.rangeAt g 0 (k.1.map bv++[x]):=by
 have hk:(k.1.map bv).length=32:=by rw[Vx6];exact k.2
 have h2:=Zae h
 refine⟨?_,fun j v hv=>h2 j v ?_,h2⟩
 ·have:=h2 32 x (by rw[List.getElem?_append_right (by omega),hk];rfl)
  rwa [Nat.zero_add]at this
 ·rw[List.getElem?_append_left (List.getElem?_eq_some_iff.1 hv).1];exact hv
set_option maxRecDepth 100000 in
set_option maxHeartbeats 1600000 in
theorem ZcH(F:Nat→Prop)(A:Option Addr)(c n:Nat)(ps:List Pr)(w:World)(hr:Row F w A ps)(hn:n=ps.length)(hc:ps.length≤9223372036854775807):
  Calls Tryz.prog 36 #[.slice A n c] w fun e w'=>e=.returned (.int .i64 (if mayP ps=true then 0 else 8))∧Below w.heap.size w w':=by
 subst hn
 obtain⟨ans,ha⟩:∃z:Int,(if mayP ps=true then 0 else 8)=z:=⟨_,rfl⟩
 have hM:mayP ps=(decide (ps.length≤512)&&chain ps):=rfl
 rw[ha]
 by_cases h0:512<ps.length
 ·rw[hM,Vy1 (by omega),Bool.false_and,if_neg (by decide)]at ha
  subst ha
  go_enter Tryz.func36,Tryz.ntmps36
  go_wp2
  go_ret
  exact⟨rfl,Below.refl _ _⟩
 ·rw[hM,Vy2 (by omega),Bool.true_and]at ha
  replace ha:=hid ha
  clear hM
  go_enter Tryz.func36,Tryz.ntmps36
  go_wp2
  go_loopw [10] (fun i wr=>∃k:Nat,k≤ps.length∧i=.int .i64 k∧(∀ i,i<k→Good ps i)∧Below w.heap.size w wr) (fun i _=>ps.length-(intOf i).toNat)
  case atStart=>exact⟨0,Nat.zero_le _,rfl,fun i hi=>absurd hi (by omega),Below.refl _ _⟩
  case round=>
   obtain⟨k,hk,rfl,hrel,hbw⟩:=hrel
   replace hrel:=hid hrel
   by_cases hlt:k<ps.length
   ·have hu:=Tryz.underlying37
    have hu2:=Tryz.underlying43
    have hG:Hid (Good ps k↔(valB ps[k].v=true∧(0<k→ahead (ps[k-1]'(by omega)).k.1 ps[k].k.1=true))):=⟨fun h=>h hlt,fun h _=>h⟩
    obtain⟨b,o,hA,-,A',c',-,r2,h1,h2,h3⟩:=ZcO (hr.bel hbw) hlt
    have hj:=fun j (hj:j<ps.length)=>ZcO hr hj
    replace hj:=hid hj
    subst hA
    have hs:=hid (Zjo ps[k].k (.slice A' ps[k].v.length c'))
    have hi1:=hid (Zfp ps[k].k)
    obtain⟨vb,hvb⟩:∃vb,valB ps[k].v=vb:=⟨_,rfl⟩
    have hvl:ps[k].v.length≤9223372036854775807:=by unfold maxLen at h2;omega
    have hbs:=hbw.size
    have z1:=ps[k].k.2
    have hlen:Hid ((ps[k].k.1.map bv++[Value.slice A' ps[k].v.length c']).length=33):=Zbq _ _
    have hone:Hid ((ps[k].k.1.map bv++[Value.slice A' ps[k].v.length c']).toArray.all (·.oneCell')=true):=all_oneCell_toArray (Enc.one (ZcL (F:=F) (w:=wr) ps[k].k ps[k].v A' c' h1 h2 h3))
    generalize hkq:ps[k].k=kq at *
    generalize hvq:ps[k].v=v at *
    go_wp2_with (first
     |(with_reducible refine lDr r2 hs.out hu2 ?_)
     |(with_reducible refine Zac rfl 43 rfl zPrC ZnQ ?_)
     |((with_reducible refine wpList_store_row rfl 43 (.tmp 4) (.tmp 14) rfl wr.heap.size (kq.1.map bv++[Value.slice A' v.length c']:List Value).toArray rfl ?_ 43 zPrC ?_ ?_ ?_ ?_ ?_);rfl;exact Vx0 wr _;exact hs.out;exact zSizePr.trans hlen.out.symm;exact hone.out;intro w4 hg4 hb4 hs4;have hcell4:=(ZeW hg4).1))
    have B4:=ZfZ hb4
    have B04:=hbw.trans (B4.mono hbs)
    have hkey:=(ZeW hg4).2.1
    replace hvb:=hid hvb
    replace hkq:=hid hkq
    clear hvq hg4 hb4 r2 hone hlen hs hu2 h3
    refine(ZfS v A' c' vb _ hvl hvb.out).mono ?_
    rintro e w5 ⟨rfl,rfl⟩
    cases vb
    ·have hbad:ans=8:=by
      rw[← ha.out,if_neg]
      rw[Zf1]
      intro h
      have:=(hG.out.1 (h k)).1
      rw[hvb.out]at this;cases this
     replace hbad:=hid hbad
     clear hG
     go_wp2
     go_ret
     exact⟨ZiT hbad.out.symm,B04⟩
    ·rcases Nat.eq_zero_or_pos k with h00|h00
     ·subst h00
      have hnext:∀i,i<0+1→Good ps i:=fun i hi=>by
       obtain rfl:i=0:=by omega
       exact hG.out.2 ⟨hvb.out,fun h=>absurd h (by omega)⟩
      replace hnext:=hid hnext
      clear hG
      go_wp2
      refine wp_region_noPanic ?_
      refine wp_region_held_drew (S:=fun w'=>Below w.heap.size w w') (by kernel_rfl) ?_ (fun hHeld=>?_)
      ·exact below_drewN B04 1
      refine' tkW 0 1 ?_
      refine' tkW 2 3 ?_
      simp only[sQ]
      refine' tkW 4 5 ?_
      refine' tkW 6 7 ?_
      simp only[sQ]
      refine' tkW 8 9 ?_
      refine' tkW 10 11 ?_
      simp only[sQ]
      refine' tkW 12 13 ?_
      simp only[sQ]
      refine dnN ?_
      go_wp2
      go_roundw
      case rel=>exact⟨1,by omega,by go_num,hnext.out,hHeld⟩
      case measure=>simp[intOf];omega
     ·obtain⟨j,rfl⟩:∃j,k=j+1:=⟨k-1,by omega⟩
      obtain⟨b',o',hA',r0,-⟩:=hj.out j (by omega)
      injection hA' with hA'
      injection hA' with hb' ho' _
      subst hb' ho'
      have hsub:IntKind.i64.wrap (j:Int)=j:=by rw[IntKind.wrap_i64];omega
      have hj2:j<ps.length:=by omega
      obtain⟨ab,hab⟩:∃ab,ahead ps[j].k.1 kq.1=ab:=⟨_,rfl⟩
      have hbad:ab=false→ans=8:=by
       intro hf
       rw[← ha.out,if_neg]
       rw[Zf1]
       intro h
       have:=(hG.out.1 (h (j+1))).2 (by omega)
       rw[show ps[j+1-1]=ps[j] from rfl,hab,hf]at this;cases this
      have hnext:ab=true→∀i,i<j+1+1→Good ps i:=fun ht i hi=>by
       rcases Nat.lt_or_ge i (j+1) with hi2|hi2
       ·exact hrel.out i hi2
       ·obtain rfl:i=j+1:=by omega
        exact hG.out.2 ⟨hvb.out,fun _=>hab.trans ht⟩
      replace hnext:=hid hnext
      replace hbad:=hid hbad
      replace hab:=hid hab
      have hi2:=hid (Zfp ps[j].k)
      generalize ps[j].k=kp at *
      have z2:=kp.2
      have hj0:(0:Int)≤(j:Int)+1:=by omega
      have R0:=Zab (hbw.trans (B4.mono hbs)) r0
      clear hG hj
      go_wp2
      refine rgB fun hHeld=>?_
      refine' tkW 0 1 ?_
      refine' tkW 2 3 ?_
      simp only[sQ]
      refine' tkW 4 5 ?_
      refine' tkW 6 7 ?_
      simp only[sQ]
      refine' tkM 8 rfl (fun _ h=>Zab h R0) hu hi2.out ?_
      refine' tkP 9 rfl ?_
      refine' tkM 10 rfl (fun _ h=>Zab h hkey) hu hi1.out ?_
      simp only[sQ]
      refine rdC 11 rfl (Zqs kp kq _ _ ab _ rfl rfl hab.out) fun w7 hB hHeld=>?_
      try simp only[sQ]
      refine' tkW 12 13 ?_
      simp only[sQ]
      refine dnN ?_
      have B07:=B04.trans (hHeld.mono B04.size)
      cases ab
      ·replace hbad:=hid (hbad.out rfl)
       go_wp2
       go_ret
       exact⟨ZiT hbad.out.symm,B07⟩
      ·replace hnext:=hid (hnext.out rfl)
       go_wp2
       go_roundw
       case rel=>exact⟨j+1+1,by omega,by go_num,hnext.out,B07⟩
       case measure=>simp[intOf];omega
   ·obtain rfl:k=ps.length:=by omega
    have hgood:ans=0:=by
     rw[← ha.out,if_pos]
     rw[Zf1]
     intro i h
     exact hrel.out i h h
    replace hgood:=hid hgood
    go_wp2
    go_ret
    exact⟨ZiT hgood.out.symm,hbw⟩
def Parts(ps:List Pr)(so:Pr→Bool)(m:Nat):Prop:=m≤ps.length∧(∀ i (h:i<ps.length),i<m→so ps[i]=false)∧∀i (h:i<ps.length),m≤i→so ps[i]=true
end Go.Proofs.YtnnclggeifnomaaGreatDoor
