import Derived.Test.YtiglglcfcfjigaaGreatDoorBits
set_option maxRecDepth 100000
set_option linter.all false
namespace Go.Proofs.YtiglglcfcfjigaaGreatDoor
open Go.RowKit
theorem Zcs{a b:Bool}(h:a=b):Ending.returned (.bool a)=.returned (.bool b):=by rw[h]
theorem ZfX(A1 A2:Option Addr)(c1 c2:Nat)(l1 l2:List UInt8)(b:Bool)(w:World)(h1:Rd w A1 l1)(h2:Rd w A2 l2)(he:decide (l1=l2)=b):
  Calls Tryz.prog 64 #[.slice A1 l1.length c1,.slice A2 l2.length c2] w fun e w'=>e=.returned (.bool b)∧w=w':=by
 subst he
 by_cases h:l1=l2
 ·rw[Vy2 h];exact ZaK A1 A2 _ _ c1 c2 l1 l2 w h1 h2 rfl rfl h
 ·rw[Vy1 h];exact ZmF A1 A2 _ _ c1 c2 l1 l2 w h1 h2 rfl rfl h
theorem ZsA{ps qs:List Pr}{j:Nat}(h1:j<ps.length)(h2:j<qs.length)(h:ps.take j=qs.take j):ps.take (j+1)=qs.take (j+1)↔ps[j].k=qs[j].k∧ps[j].v=qs[j].v:=by
 rw[Vy5 h1,Vy5 h2,h]
 constructor
 ·intro e
  have:=List.append_cancel_left e
  simp at this
  rw[this];exact⟨rfl,rfl⟩
 ·rintro ⟨e1,e2⟩
  have:ps[j]=qs[j]:=by
   cases hp:ps[j];cases hq:qs[j]
   rw[hp,hq]at e1 e2
   simp at e1 e2
   rw[e1,e2]
  rw[this]
set_option maxRecDepth 100000 in
set_option maxHeartbeats 1600000 in
theorem ZbH(F G:Nat→Prop)(A D:Option Addr)(c d n m:Nat)(ps qs:List Pr)(w:World)(hr:Row F w A ps)(hs:Row G w D qs)(hn:n=ps.length)(hm:m=qs.length)(hc:ps.length≤9223372036854775807)(hd:qs.length≤9223372036854775807):
  Calls Tryz.prog 34 #[.slice A n c,.slice D m d] w fun e w'=>e=.returned (.bool (decide (ps=qs)))∧Below w.heap.size w w':=by
 subst hn hm
 obtain⟨ans,ha⟩:∃ans,decide (ps=qs)=ans:=⟨_,rfl⟩
 rw[ha]
 replace ha:=hid ha
 by_cases hl:ps.length=qs.length
 ·have hl2:=hid hl
  rw[← hl]at hd ⊢
  replace hl:=hl2
  clear hl2
  go_enter Tryz.func34,Tryz.ntmps34
  go_wp2
  go_loopw [5] (fun i wr=>∃j:Nat,j≤ps.length∧i=.int .i64 j∧ps.take j=qs.take j∧Below w.heap.size w wr) (fun i _=>ps.length-(intOf i).toNat)
  case atStart=>exact⟨0,Nat.zero_le _,rfl,by simp,Below.refl _ _⟩
  case round=>
   obtain⟨j,hj,rfl,hrel,hb⟩:=hrel
   by_cases hlt:j<ps.length
   ·have hlt2:j<qs.length:=by rw[← hl.out];exact hlt
    have E:=hid (ZsA hlt hlt2 hrel)
    replace hrel:=hid hrel
    have hu:=Tryz.underlying37
    obtain⟨b,o,hA,r1,A',c',hcell,-,h1,h2,h3⟩:=ZcO hr hlt
    obtain⟨b',o',hD,r2,D',d',hcell2,-,h4,h5,h6⟩:=ZcO hs hlt2
    have hrd:=h3.rd
    have hrd2:=h6.rd
    subst hA hD
    obtain⟨eb,heb⟩:∃eb,decide (ps[j].k=qs[j].k)=eb:=⟨_,rfl⟩
    obtain⟨vb,hvb⟩:∃vb,decide (ps[j].v=qs[j].v)=vb:=⟨_,rfl⟩
    have hE:∀W,(Op.equalIn 10000 37 (.agg (ps[j].k.1.map bv).toArray) (.agg (qs[j].k.1.map bv).toArray)).run Tryz.prog W=.ok eb W:=fun W=>ZaL ps[j].k qs[j].k eb heb W
    have hno:eb=false∨vb=false→ans=false:=by
     intro h
     rw[← ha.out,Vy1]
     intro e
     have:=E.out.1 (by rw[e])
     rcases h with h|h
     ·rw[h]at heb;simp[this.1]at heb
     ·rw[h]at hvb;simp[this.2]at hvb
    have hyes:eb=true→vb=true→ps.take (j+1)=qs.take (j+1):=fun h1 h2=>E.out.2 ⟨by simpa [h1] using heb,by simpa [h2] using hvb⟩
    replace hno:=hid hno
    replace hyes:=hid hyes
    replace hvb:=hid hvb
    clear heb E h3 h6 hr hs
    generalize ps[j].k=k1 at *
    generalize qs[j].k=k2 at *
    generalize ps[j].v=v1 at *
    generalize qs[j].v=v2 at *
    have z1:=k1.2
    have z2:=k2.2
    clear hlt2
    cases eb
    ·replace hno:=hid (hno.out (.inl rfl))
     go_wp2
     refine wp_region_noPanic ?_
     refine wp_region_held_drew (S:=fun w'=>Below w.heap.size w w') (by kernel_rfl) ?_ (fun hHeld=>?_)
     ·exact below_drewN hb 1
     refine' tkW 0 1 ?_
     refine' tkW 2 3 ?_
     simp only[sQ]
     refine' tkM 4 rfl (fun _ h=>Zab h r1) hu (by first|assumption|(rw[Vx6];simp only[*];exact Zai)) ?_
     refine' tkW 5 6 ?_
     refine' tkP 7 rfl ?_
     simp only[sQ]
     refine' tkP 8 rfl ?_
     refine' tkM 9 rfl (fun _ h=>Zab h r2) hu (by first|assumption|(rw[Vx6];simp only[*];exact Zai)) ?_
     refine' tkW 10 11 ?_
     simp only[sQ]
     refine' tkW 12 13 ?_
     refine' tkW 14 15 ?_
     simp only[sQ]
     refine' tkW 16 17 ?_
     refine' tkW 18 19 ?_
     simp only[sQ]
     refine' tkW 20 21 ?_
     refine' tkW 22 23 ?_
     simp only[sQ]
     refine' tkP 24 rfl ?_
     simp only[sQ]
     refine dnN ?_
     go_wp2
     go_ret
     exact⟨Zcs hno.out.symm,hHeld⟩
    ·replace hyes:=hid (hyes.out rfl)
     go_wp2
     refine wp_region_noPanic ?_
     refine wp_region_held_drew (S:=fun w'=>Below w.heap.size w w') (by kernel_rfl) ?_ (fun hHeld=>?_)
     ·exact below_drewN hb 1
     refine' tkW 0 1 ?_
     refine' tkW 2 3 ?_
     simp only[sQ]
     refine' tkM 4 rfl (fun _ h=>Zab h r1) hu (by first|assumption|(rw[Vx6];simp only[*];exact Zai)) ?_
     refine' tkW 5 6 ?_
     refine' tkP 7 rfl ?_
     simp only[sQ]
     refine' tkP 8 rfl ?_
     refine' tkM 9 rfl (fun _ h=>Zab h r2) hu (by first|assumption|(rw[Vx6];simp only[*];exact Zai)) ?_
     refine' tkW 10 11 ?_
     simp only[sQ]
     refine' tkW 12 13 ?_
     refine' tkW 14 15 ?_
     simp only[sQ]
     refine' tkC 16 rfl hcell ?_
     refine' tkW 17 18 ?_
     refine' tkP 19 rfl ?_
     simp only[sQ]
     refine' tkP 20 rfl ?_
     refine' tkC 21 rfl hcell2 ?_
     simp only[sQ]
     refine rdH 22 rfl fun K hK=>?_
     go_simp
     refine(ZfX A' D' c' d' v1 v2 vb _ (hrd.bel hHeld) (hrd2.bel hHeld) hvb.out).mono ?_
     rintro e7 w7 ⟨rfl,rfl⟩
     go_wp2_with fail
     refine hK.out _ _ (hHeld) fun hHeld=>?_
     clear hK K
     try simp only[sQ]
     refine' tkW 23 24 ?_
     simp only[sQ]
     refine dnN ?_
     cases vb
     ·replace hno:=hid (hno.out (.inr rfl))
      go_wp2
      go_ret
      exact⟨Zcs hno.out.symm,hHeld⟩
     ·replace hyes:=hid (hyes.out rfl)
      go_wp2
      go_roundw
      case rel=>exact⟨j+1,by omega,by go_num,hyes.out,hHeld⟩
      case measure=>simp[intOf];omega
   ·obtain rfl:j=ps.length:=by omega
    have hans:ans=true:=by
     rw[← ha.out,Vy2]
     rw[List.take_length]at hrel
     rw[hrel,hl.out,List.take_length]
    replace hans:=hid hans
    replace hrel:=hid hrel
    go_wp2
    go_ret
    exact⟨Zcs hans.out.symm,hb⟩
 ·have hans:ans=false:=by
   rw[← ha.out,Vy1]
   intro e
   exact hl (by rw[e])
  subst hans
  go_enter Tryz.func34,Tryz.ntmps34
  go_wp2
  go_ret
  exact⟨rfl,Below.refl _ _⟩
end Go.Proofs.YtiglglcfcfjigaaGreatDoor
