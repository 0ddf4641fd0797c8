import Derived.Test.YtimaoonpgilekaaDoorLn
set_option linter.all false
namespace Go.Proofs.YtimaoonpgilekaaDoor
open Go.RowKit
set_option maxRecDepth 100000
set_option maxHeartbeats 4000000 in
theorem You(F G:Nat→Prop)(A D:Option Addr)(c d:Nat)(ps qs:List Tx)(w:World)(hr:Row F w A ps)(hs:Row G w D qs)(hc:ps.length≤9223372036854775807)(hd:qs.length≤9223372036854775807):
  Calls Tryd.prog 13 #[.slice A ps.length c,.slice D qs.length d] w fun e w'=>e=.returned (.bool (decide (ps=qs)))∧Below w.heap.size w w':=by
 obtain⟨ans,ha⟩:∃ans,decide (ps=qs)=ans:=⟨_,rfl⟩
 rw[ha]
 replace ha:=hid ha
 have hu:=Tryd.underlying33
 by_cases hl:ps.length=qs.length
 ·have hl2:=hid hl
  rw[← hl]at hd ⊢
  replace hl:=hl2
  clear hl2
  go_enter Tryd.func13,Tryd.ntmps13
  go_wp2
  go_loopw [5] (fun i wr=>∃j:Nat,j≤ps.length∧i=.int .i64 j∧ps.take j=qs.take j∧Below w.heap.size w wr) (fun i _=>ps.length-(intOf i).toNat)
  case atStart=>exact⟨0,Nat.zero_le _,rfl,by simp,Below.refl _ _⟩
  case round=>
   obtain⟨j,hj,rfl,hrel,hb⟩:=hrel
   by_cases hlt:j<ps.length
   ·have hlt2:j<qs.length:=by rw[← hl.out];exact hlt
    have E:=hid (Yn1 hlt hlt2 hrel)
    replace hrel:=hid hrel
    obtain⟨b,o,hA,r1,k1⟩:=Yoa hr hlt
    obtain⟨b',o',hD,r2,k2⟩:=Yoa hs hlt2
    subst hA hD
    obtain⟨eb,heb⟩:∃eb,decide (ps[j]=qs[j])=eb:=⟨_,rfl⟩
    have hE:∀W,(Op.equalIn 10000 33 (.agg (txC ps[j]).toArray) (.agg (txC qs[j]).toArray)).run Tryd.prog W=.ok eb W:=fun W=>Zfm ps[j] qs[j] k1 k2 eb heb W
    have hno:eb=false→false=ans:=by
     intro h
     rw[← ha.out]
     refine(Vy1 fun e=>?_).symm
     have:=E.out.1 (by rw[e])
     rw[h]at heb;simp[this]at heb
    have hyes:eb=true→ps.take (j+1)=qs.take (j+1):=fun h1=>E.out.2 (by simpa [h1] using heb)
    have hi1:=hid (Zby ps[j])
    have hi2:=hid (Zby qs[j])
    clear heb E k1 k2
    generalize txC ps[j]=d1 at *
    generalize txC qs[j]=d2 at *
    have q1:=hid r1
    have q2:=hid r2
    clear hlt2 r1 r2
    cases eb
    ·replace hno:=hid (hno rfl)
     clear hyes
     go_wp2
     refine rgB fun hHeld=>?_
     refine' tkW 0 1 ?_
     refine' tkP 2 rfl ?_
     refine' tkM 3 rfl (fun _ h=>Zab h (Zab hb q1.out)) hu hi1.out ?_
     simp only[sQ]
     refine' tkW 4 5 ?_
     refine' tkP 6 rfl ?_
     refine' tkM 7 rfl (fun _ h=>Zab h (Zab hb q2.out)) hu hi2.out ?_
     simp only[sQ]
     refine' tkP 8 rfl ?_
     simp only[sQ]
     refine dnN ?_
     go_wp2
     go_ret
     exact⟨by rw[← hno.out];rfl,hb.trans (hHeld.mono hb.size)⟩
    ·replace hyes:=hid (hyes rfl)
     clear hno
     go_wp2
     refine rgB fun hHeld=>?_
     refine' tkW 0 1 ?_
     refine' tkP 2 rfl ?_
     refine' tkM 3 rfl (fun _ h=>Zab h (Zab hb q1.out)) hu hi1.out ?_
     simp only[sQ]
     refine' tkW 4 5 ?_
     refine' tkP 6 rfl ?_
     refine' tkM 7 rfl (fun _ h=>Zab h (Zab hb q2.out)) hu hi2.out ?_
     simp only[sQ]
     refine' tkP 8 rfl ?_
     simp only[sQ]
     refine dnN ?_
     go_wp2
     go_roundw
     case rel=>exact⟨j+1,by omega,by go_num,hyes.out,hb.trans (hHeld.mono hb.size)⟩
     case measure=>simp[intOf];omega
   ·obtain rfl:j=ps.length:=by omega
    have e1:true=ans:=by
     rw[← ha.out]
     refine(Vy2 ?_).symm
     rw[List.take_length]at hrel
     rw[hrel,hl.out,List.take_length]
    replace e1:=hid e1
    replace hrel:=trivial
    go_wp2
    go_ret
    exact⟨by rw[← e1.out];rfl,hb⟩
 ·have e0:false=ans:=by
   rw[← ha.out]
   exact(Vy1 fun e=>hl (by rw[e])).symm
  replace e0:=hid e0
  have q1:((ps.length:Int)==(qs.length:Int))=false:=by rw[beq_eq_false_iff_ne];omega
  clear ha
  go_enter Tryd.func13,Tryd.ntmps13
  go_wp2
  go_ret
  exact⟨by rw[← e0.out];rfl,Below.refl _ _⟩
end Go.Proofs.YtimaoonpgilekaaDoor
