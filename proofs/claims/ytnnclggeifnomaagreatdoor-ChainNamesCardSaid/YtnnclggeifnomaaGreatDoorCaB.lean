import Derived.Test.YtnnclggeifnomaaGreatDoorCaA
import Derived.Test.YtnnclggeifnomaaGreatDoorBkL
set_option maxRecDepth 100000
set_option linter.all false
set_option maxHeartbeats 4000000
namespace Go.Proofs.YtnnclggeifnomaaGreatDoor
open Go.RowKit
theorem Yk3{a b:Bool}(h:a=b):Ending.returned (.bool a)=.returned (.bool b):=by rw[h]
theorem OwnR.emptyC{α:Type}[Enc α](E:TypeId)(w:World):OwnR E (w.alloc (.cells #[] E)) w.heap.size (some ⟨w.heap.size,0,none⟩) 0 ([]:List α):=
 ⟨fun _=>False,⟨[],rfl,⟨by simp,.inr ⟨w.heap.size,0,#[],rfl,Vx8 _,Vx0 w _,Vx8 _,Nat.zero_le _,by simp,by simp⟩⟩,fun j x vs h=>by simp at h,fun _ _ h=>h⟩,fun b h=>h.elim⟩
theorem YmX(F G:Nat→Prop)(A D:Option Addr)(c d:Nat)(ps qs:List Dp)(w:World)(hr:Row F w A ps)(hs:Row G w D qs)(hc:ps.length≤9223372036854775807)(hd:qs.length≤9223372036854775807):
  Calls Tryz.prog 144 #[.slice A ps.length c,.slice D qs.length d] w fun e w'=>e=.returned (.bool (decide (ps=qs)))∧Below w.heap.size w w':=by
 obtain⟨ans,ha⟩:∃ans,decide (ps=qs)=ans:=⟨_,rfl⟩
 rw[ha]
 replace ha:=hid ha
 by_cases hl:ps.length=qs.length
 ·have hl2:=hid hl
  rw[← hl]at hd ⊢
  replace hl:=hl2
  clear hl2
  go_enter Tryz.func144,Tryz.ntmps144
  go_wp2
  go_loopw [13] (fun i wr=>∃j:Nat,j≤ps.length∧i=.int .i64 j∧ps.take j=qs.take j∧Below w.heap.size w wr) (fun i _=>ps.length-(intOf i).toNat)
  case atStart=>exact⟨0,Nat.zero_le _,rfl,by simp,Below.refl _ _⟩
  case round=>
   obtain⟨j,hj,rfl,hrel,hb⟩:=hrel
   by_cases hlt:j<ps.length
   ·have hlt2:j<qs.length:=by rw[← hl.out];exact hlt
    have E:=hid (ZgI hlt hlt2 hrel)
    replace hrel:=hid hrel
    have hu:=Tryz.underlying142
    obtain⟨b,o,hA,r1,m1⟩:=Zsb hr hlt
    obtain⟨b',o',hD,r2,m2⟩:=Zsb hs hlt2
    subst hA hD
    obtain⟨eb,heb⟩:∃eb,decide (ps[j]=qs[j])=eb:=⟨_,rfl⟩
    have hE:∀W,(Op.equalIn 10000 142 (.agg (dpC ps[j]).toArray) (.agg (dpC qs[j]).toArray)).run Tryz.prog W=.ok eb W:=fun W=>Ygu ps[j] qs[j] m1 m2 eb heb W
    have hno:eb=false→false=ans:=by
     intro h
     rw[← ha.out]
     refine(Vy1 fun e=>?_).symm
     have:=E.out.1 (by rw[e])
     rw[h]at heb;simp[this]at heb
    have hyes:eb=true→ps.take (j+1)=qs.take (j+1):=fun h1=>E.out.2 (by simpa [h1] using heb)
    have hi1:=hid (Zia ps[j])
    have hi2:=hid (Zia qs[j])
    clear heb E m1 m2
    generalize dpC ps[j]=d1 at *
    generalize dpC qs[j]=d2 at *
    have q1:=hid r1
    have q2:=hid r2
    clear hlt2 r1 r2
    cases eb
    ·replace hno:=hid (hno rfl)
     clear hyes
     go_wp2
     refine rgB fun hHeld=>?_
     refine' tkW 0 1 ?_
     refine' tkP 2 rfl ?_
     refine' tkM 3 rfl (fun _ h=>Zab h (Zab hb q1.out)) hu hi1.out ?_
     simp only[sQ]
     refine' tkW 4 5 ?_
     refine' tkP 6 rfl ?_
     refine' tkM 7 rfl (fun _ h=>Zab h (Zab hb q2.out)) hu hi2.out ?_
     simp only[sQ]
     refine' tkP 8 rfl ?_
     simp only[sQ]
     refine dnN ?_
     go_wp2
     go_ret
     exact⟨Yk3 hno.out,hb.trans (hHeld.mono hb.size)⟩
    ·replace hyes:=hid (hyes rfl)
     clear hno
     go_wp2
     refine rgB fun hHeld=>?_
     refine' tkW 0 1 ?_
     refine' tkP 2 rfl ?_
     refine' tkM 3 rfl (fun _ h=>Zab h (Zab hb q1.out)) hu hi1.out ?_
     simp only[sQ]
     refine' tkW 4 5 ?_
     refine' tkP 6 rfl ?_
     refine' tkM 7 rfl (fun _ h=>Zab h (Zab hb q2.out)) hu hi2.out ?_
     simp only[sQ]
     refine' tkP 8 rfl ?_
     simp only[sQ]
     refine dnN ?_
     go_wp2
     go_roundw
     case rel=>exact⟨j+1,by omega,by go_num,hyes.out,hb.trans (hHeld.mono hb.size)⟩
     case measure=>simp[intOf];omega
   ·obtain rfl:j=ps.length:=by omega
    have e1:true=ans:=by
     rw[← ha.out]
     refine(Vy2 ?_).symm
     rw[List.take_length]at hrel
     rw[hrel,hl.out,List.take_length]
    replace e1:=hid e1
    replace hrel:=trivial
    go_wp2
    go_ret
    exact⟨Yk3 e1.out,hb⟩
 ·have e1:false=ans:=by rw[← ha.out];exact(Vy1 fun e=>hl (by rw[e])).symm
  have hne:((ps.length:Int) !=(qs.length:Int))=true:=bne_iff_ne.2 (by omega)
  go_enter Tryz.func144,Tryz.ntmps144
  go_wp2
  go_ret
  exact⟨Yk3 e1,Below.refl _ _⟩
theorem Ynl{F G:Nat→Prop}{w:World}{A:Option Addr}{xs:List Dp}(h:Src F w A xs):Src G w A xs:=fun hn=>by
 obtain⟨b,o,hA,hc⟩:=h hn
 exact⟨b,o,hA,fun j x hx=>by obtain⟨vs,h1,h2⟩:=hc j x hx;exact⟨vs,h1,h2⟩⟩
theorem YlA(F:Nat→Prop)(A:Option Addr)(c:Nat)(ps:List Dp)(w:World)(hr:Row F w A ps)(hc:ps.length≤1000000):
  Calls Tryz.prog 92 #[.slice A ps.length c] w fun e w'=>∃A' c',e=.returned (.slice A' ps.length c')∧OwnR 142 w' w.heap.size A' c' ps∧Below w.heap.size w w':=by
 have hus:=Tryz.underlying32
 have q22:∀(w:World) (a:Option Addr) (n c n' c':Nat),(binOp .eql 32 (.slice a n c) (.slice none n' c')).run Tryz.prog w=.ok (.bool a.isNone) w:=fun w a n c n' c'=>Lib.run_eql_slice_nil w _ _ a n c n' c' hus
 rcases A with _|a
 ·have h0:ps=[]:=by
   rcases Nat.eq_zero_or_pos ps.length with h0|h0
   ·exact List.eq_nil_of_length_eq_zero h0
   ·obtain⟨b,o,hA,_⟩:=hr h0
    cases hA
  subst h0
  clear hr hc
  go_enter Tryz.func92,Tryz.ntmps92
  go_wp2
  go_ret
  exact⟨none,0,rfl,OwnR.nil _ _,Below.refl _ _⟩
 ·have W0:=Zad w (.cells #[] 142)
  have hs:=hid (Ynl (G:=fun _=>False) (hr.bel W0).src)
  have ho:=hid (OwnR.emptyC (α:=Dp) 142 w)
  have hz:=hid (show w.heap.size≤(w.alloc (.cells #[] 142)).heap.size by simp)
  generalize hl:ps.length=n at *
  replace hl:=hid hl
  go_enter Tryz.func92,Tryz.ntmps92
  go_wp2_with (first
   |((with_reducible refine Za0 Ybp rfl rfl ?_))
   |(at_builtin;refine ZbG Ybp rfl (.tmp 5) (.tmp 6) rfl w.heap.size w.heap.size (some ⟨w.heap.size,0,none⟩) (some a) 0 n 0 c [] ps (fun _=>False) rfl rfl rfl hl.out.symm ho.out hs.out (fun b hb=>hb.elim) (by have:=hl.out;simp;omega) hz.out ?_;intro A7 c7 w9 ho9 hb9;rw[List.nil_append]at ho9 ⊢;have own9:=hid ho9;have W9:=hid ((W0.trans (hb9.mono (Vx8 _))));clear ho9 hb9))
  go_ret
  exact⟨A7,c7,by rw[← hl.out];rfl,own9.out,W9.out⟩
theorem YmZ(F G:Nat→Prop)(A D:Option Addr)(c d:Nat)(ps qs:List Tx)(w:World)(hr:Row F w A ps)(hs:Row G w D qs)(hc:ps.length≤9223372036854775807)(hd:qs.length≤9223372036854775807):
  Calls Tryz.prog 145 #[.slice A ps.length c,.slice D qs.length d] w fun e w'=>e=.returned (.bool (decide (ps=qs)))∧Below w.heap.size w w':=by
 obtain⟨ans,ha⟩:∃ans,decide (ps=qs)=ans:=⟨_,rfl⟩
 rw[ha]
 replace ha:=hid ha
 by_cases hl:ps.length=qs.length
 ·have hl2:=hid hl
  rw[← hl]at hd ⊢
  replace hl:=hl2
  clear hl2
  go_enter Tryz.func145,Tryz.ntmps145
  go_wp2
  go_loopw [13] (fun i wr=>∃j:Nat,j≤ps.length∧i=.int .i64 j∧ps.take j=qs.take j∧Below w.heap.size w wr) (fun i _=>ps.length-(intOf i).toNat)
  case atStart=>exact⟨0,Nat.zero_le _,rfl,by simp,Below.refl _ _⟩
  case round=>
   obtain⟨j,hj,rfl,hrel,hb⟩:=hrel
   by_cases hlt:j<ps.length
   ·have hlt2:j<qs.length:=by rw[← hl.out];exact hlt
    have E:=hid (ZgI hlt hlt2 hrel)
    replace hrel:=hid hrel
    have hu:=Tryz.underlying145
    obtain⟨b,o,hA,r1,m1⟩:=Zvs hr hlt
    obtain⟨b',o',hD,r2,m2⟩:=Zvs hs hlt2
    subst hA hD
    obtain⟨eb,heb⟩:∃eb,decide (ps[j]=qs[j])=eb:=⟨_,rfl⟩
    have hE:∀W,(Op.equalIn 10000 145 (.agg (txC ps[j]).toArray) (.agg (txC qs[j]).toArray)).run Tryz.prog W=.ok eb W:=fun W=>Zfm ps[j] qs[j] m1 m2 eb heb W
    have hno:eb=false→false=ans:=by
     intro h
     rw[← ha.out]
     refine(Vy1 fun e=>?_).symm
     have:=E.out.1 (by rw[e])
     rw[h]at heb;simp[this]at heb
    have hyes:eb=true→ps.take (j+1)=qs.take (j+1):=fun h1=>E.out.2 (by simpa [h1] using heb)
    have hi1:=hid (Zby ps[j])
    have hi2:=hid (Zby qs[j])
    clear heb E m1 m2
    generalize txC ps[j]=d1 at *
    generalize txC qs[j]=d2 at *
    have q1:=hid r1
    have q2:=hid r2
    clear hlt2 r1 r2
    cases eb
    ·replace hno:=hid (hno rfl)
     clear hyes
     go_wp2
     refine rgB fun hHeld=>?_
     refine' tkW 0 1 ?_
     refine' tkP 2 rfl ?_
     refine' tkM 3 rfl (fun _ h=>Zab h (Zab hb q1.out)) hu hi1.out ?_
     simp only[sQ]
     refine' tkW 4 5 ?_
     refine' tkP 6 rfl ?_
     refine' tkM 7 rfl (fun _ h=>Zab h (Zab hb q2.out)) hu hi2.out ?_
     simp only[sQ]
     refine' tkP 8 rfl ?_
     simp only[sQ]
     refine dnN ?_
     go_wp2
     go_ret
     exact⟨Yk3 hno.out,hb.trans (hHeld.mono hb.size)⟩
    ·replace hyes:=hid (hyes rfl)
     clear hno
     go_wp2
     refine rgB fun hHeld=>?_
     refine' tkW 0 1 ?_
     refine' tkP 2 rfl ?_
     refine' tkM 3 rfl (fun _ h=>Zab h (Zab hb q1.out)) hu hi1.out ?_
     simp only[sQ]
     refine' tkW 4 5 ?_
     refine' tkP 6 rfl ?_
     refine' tkM 7 rfl (fun _ h=>Zab h (Zab hb q2.out)) hu hi2.out ?_
     simp only[sQ]
     refine' tkP 8 rfl ?_
     simp only[sQ]
     refine dnN ?_
     go_wp2
     go_roundw
     case rel=>exact⟨j+1,by omega,by go_num,hyes.out,hb.trans (hHeld.mono hb.size)⟩
     case measure=>simp[intOf];omega
   ·obtain rfl:j=ps.length:=by omega
    have e1:true=ans:=by
     rw[← ha.out]
     refine(Vy2 ?_).symm
     rw[List.take_length]at hrel
     rw[hrel,hl.out,List.take_length]
    replace e1:=hid e1
    replace hrel:=trivial
    go_wp2
    go_ret
    exact⟨Yk3 e1.out,hb⟩
 ·have e1:false=ans:=by rw[← ha.out];exact(Vy1 fun e=>hl (by rw[e])).symm
  have hne:((ps.length:Int) !=(qs.length:Int))=true:=bne_iff_ne.2 (by omega)
  go_enter Tryz.func145,Tryz.ntmps145
  go_wp2
  go_ret
  exact⟨Yk3 e1,Below.refl _ _⟩
theorem Ynn{F G:Nat→Prop}{w:World}{A:Option Addr}{xs:List Tx}(h:Src F w A xs):Src G w A xs:=fun hn=>by
 obtain⟨b,o,hA,hc⟩:=h hn
 exact⟨b,o,hA,fun j x hx=>by obtain⟨vs,h1,h2⟩:=hc j x hx;exact⟨vs,h1,h2⟩⟩
theorem YlC(F:Nat→Prop)(A:Option Addr)(c:Nat)(ps:List Tx)(w:World)(hr:Row F w A ps)(hc:ps.length≤1000000):
  Calls Tryz.prog 93 #[.slice A ps.length c] w fun e w'=>∃A' c',e=.returned (.slice A' ps.length c')∧OwnR 145 w' w.heap.size A' c' ps∧Below w.heap.size w w':=by
 have hus:=Tryz.underlying33
 have q22:∀(w:World) (a:Option Addr) (n c n' c':Nat),(binOp .eql 33 (.slice a n c) (.slice none n' c')).run Tryz.prog w=.ok (.bool a.isNone) w:=fun w a n c n' c'=>Lib.run_eql_slice_nil w _ _ a n c n' c' hus
 rcases A with _|a
 ·have h0:ps=[]:=by
   rcases Nat.eq_zero_or_pos ps.length with h0|h0
   ·exact List.eq_nil_of_length_eq_zero h0
   ·obtain⟨b,o,hA,_⟩:=hr h0
    cases hA
  subst h0
  clear hr hc
  go_enter Tryz.func93,Tryz.ntmps93
  go_wp2
  go_ret
  exact⟨none,0,rfl,OwnR.nil _ _,Below.refl _ _⟩
 ·have W0:=Zad w (.cells #[] 145)
  have hs:=hid (Ynn (G:=fun _=>False) (hr.bel W0).src)
  have ho:=hid (OwnR.emptyC (α:=Tx) 145 w)
  have hz:=hid (show w.heap.size≤(w.alloc (.cells #[] 145)).heap.size by simp)
  generalize hl:ps.length=n at *
  replace hl:=hid hl
  go_enter Tryz.func93,Tryz.ntmps93
  go_wp2_with (first
   |((with_reducible refine Za0 Zsp rfl rfl ?_))
   |(at_builtin;refine ZbG Zsp rfl (.tmp 5) (.tmp 6) rfl w.heap.size w.heap.size (some ⟨w.heap.size,0,none⟩) (some a) 0 n 0 c [] ps (fun _=>False) rfl rfl rfl hl.out.symm ho.out hs.out (fun b hb=>hb.elim) (by have:=hl.out;simp;omega) hz.out ?_;intro A7 c7 w9 ho9 hb9;rw[List.nil_append]at ho9 ⊢;have own9:=hid ho9;have W9:=hid ((W0.trans (hb9.mono (Vx8 _))));clear ho9 hb9))
  go_ret
  exact⟨A7,c7,by rw[← hl.out];rfl,own9.out,W9.out⟩
theorem YmY(F G:Nat→Prop)(A D:Option Addr)(c d:Nat)(ps qs:List Rc)(w:World)(hr:Row F w A ps)(hs:Row G w D qs)(hc:ps.length≤9223372036854775807)(hd:qs.length≤9223372036854775807):
  Calls Tryz.prog 97 #[.slice A ps.length c,.slice D qs.length d] w fun e w'=>e=.returned (.bool (decide (ps=qs)))∧Below w.heap.size w w':=by
 obtain⟨ans,ha⟩:∃ans,decide (ps=qs)=ans:=⟨_,rfl⟩
 rw[ha]
 replace ha:=hid ha
 by_cases hl:ps.length=qs.length
 ·have hl2:=hid hl
  rw[← hl]at hd ⊢
  replace hl:=hl2
  clear hl2
  go_enter Tryz.func97,Tryz.ntmps97
  go_wp2
  go_loopw [13] (fun i wr=>∃j:Nat,j≤ps.length∧i=.int .i64 j∧ps.take j=qs.take j∧Below w.heap.size w wr) (fun i _=>ps.length-(intOf i).toNat)
  case atStart=>exact⟨0,Nat.zero_le _,rfl,by simp,Below.refl _ _⟩
  case round=>
   obtain⟨j,hj,rfl,hrel,hb⟩:=hrel
   by_cases hlt:j<ps.length
   ·have hlt2:j<qs.length:=by rw[← hl.out];exact hlt
    have E:=hid (ZgI hlt hlt2 hrel)
    replace hrel:=hid hrel
    have hu:=Tryz.underlying148
    obtain⟨b,o,hA,r1,m1⟩:=ZnG hr hlt
    obtain⟨b',o',hD,r2,m2⟩:=ZnG hs hlt2
    subst hA hD
    obtain⟨eb,heb⟩:∃eb,decide (ps[j]=qs[j])=eb:=⟨_,rfl⟩
    have hE:∀W,(Op.equalIn 10000 148 (.agg (rcC ps[j]).toArray) (.agg (rcC qs[j]).toArray)).run Tryz.prog W=.ok eb W:=fun W=>ZkL ps[j] qs[j] m1 m2 eb heb W
    have hno:eb=false→false=ans:=by
     intro h
     rw[← ha.out]
     refine(Vy1 fun e=>?_).symm
     have:=E.out.1 (by rw[e])
     rw[h]at heb;simp[this]at heb
    have hyes:eb=true→ps.take (j+1)=qs.take (j+1):=fun h1=>E.out.2 (by simpa [h1] using heb)
    have hi1:=hid (ZdM ps[j])
    have hi2:=hid (ZdM qs[j])
    clear heb E m1 m2
    generalize rcC ps[j]=d1 at *
    generalize rcC qs[j]=d2 at *
    have q1:=hid r1
    have q2:=hid r2
    clear hlt2 r1 r2
    cases eb
    ·replace hno:=hid (hno rfl)
     clear hyes
     go_wp2
     refine rgB fun hHeld=>?_
     refine' tkW 0 1 ?_
     refine' tkP 2 rfl ?_
     refine' tkM 3 rfl (fun _ h=>Zab h (Zab hb q1.out)) hu hi1.out ?_
     simp only[sQ]
     refine' tkW 4 5 ?_
     refine' tkP 6 rfl ?_
     refine' tkM 7 rfl (fun _ h=>Zab h (Zab hb q2.out)) hu hi2.out ?_
     simp only[sQ]
     refine' tkP 8 rfl ?_
     simp only[sQ]
     refine dnN ?_
     go_wp2
     go_ret
     exact⟨Yk3 hno.out,hb.trans (hHeld.mono hb.size)⟩
    ·replace hyes:=hid (hyes rfl)
     clear hno
     go_wp2
     refine rgB fun hHeld=>?_
     refine' tkW 0 1 ?_
     refine' tkP 2 rfl ?_
     refine' tkM 3 rfl (fun _ h=>Zab h (Zab hb q1.out)) hu hi1.out ?_
     simp only[sQ]
     refine' tkW 4 5 ?_
     refine' tkP 6 rfl ?_
     refine' tkM 7 rfl (fun _ h=>Zab h (Zab hb q2.out)) hu hi2.out ?_
     simp only[sQ]
     refine' tkP 8 rfl ?_
     simp only[sQ]
     refine dnN ?_
     go_wp2
     go_roundw
     case rel=>exact⟨j+1,by omega,by go_num,hyes.out,hb.trans (hHeld.mono hb.size)⟩
     case measure=>simp[intOf];omega
   ·obtain rfl:j=ps.length:=by omega
    have e1:true=ans:=by
     rw[← ha.out]
     refine(Vy2 ?_).symm
     rw[List.take_length]at hrel
     rw[hrel,hl.out,List.take_length]
    replace e1:=hid e1
    replace hrel:=trivial
    go_wp2
    go_ret
    exact⟨Yk3 e1.out,hb⟩
 ·have e1:false=ans:=by rw[← ha.out];exact(Vy1 fun e=>hl (by rw[e])).symm
  have hne:((ps.length:Int) !=(qs.length:Int))=true:=bne_iff_ne.2 (by omega)
  go_enter Tryz.func97,Tryz.ntmps97
  go_wp2
  go_ret
  exact⟨Yk3 e1,Below.refl _ _⟩
theorem Ynm{F G:Nat→Prop}{w:World}{A:Option Addr}{xs:List Rc}(h:Src F w A xs):Src G w A xs:=fun hn=>by
 obtain⟨b,o,hA,hc⟩:=h hn
 exact⟨b,o,hA,fun j x hx=>by obtain⟨vs,h1,h2⟩:=hc j x hx;exact⟨vs,h1,h2⟩⟩
theorem YlB(F:Nat→Prop)(A:Option Addr)(c:Nat)(ps:List Rc)(w:World)(hr:Row F w A ps)(hc:ps.length≤1000000):
  Calls Tryz.prog 94 #[.slice A ps.length c] w fun e w'=>∃A' c',e=.returned (.slice A' ps.length c')∧OwnR 148 w' w.heap.size A' c' ps∧Below w.heap.size w w':=by
 have hus:=Tryz.underlying75
 have q22:∀(w:World) (a:Option Addr) (n c n' c':Nat),(binOp .eql 75 (.slice a n c) (.slice none n' c')).run Tryz.prog w=.ok (.bool a.isNone) w:=fun w a n c n' c'=>Lib.run_eql_slice_nil w _ _ a n c n' c' hus
 rcases A with _|a
 ·have h0:ps=[]:=by
   rcases Nat.eq_zero_or_pos ps.length with h0|h0
   ·exact List.eq_nil_of_length_eq_zero h0
   ·obtain⟨b,o,hA,_⟩:=hr h0
    cases hA
  subst h0
  clear hr hc
  go_enter Tryz.func94,Tryz.ntmps94
  go_wp2
  go_ret
  exact⟨none,0,rfl,OwnR.nil _ _,Below.refl _ _⟩
 ·have W0:=Zad w (.cells #[] 148)
  have hs:=hid (Ynm (G:=fun _=>False) (hr.bel W0).src)
  have ho:=hid (OwnR.emptyC (α:=Rc) 148 w)
  have hz:=hid (show w.heap.size≤(w.alloc (.cells #[] 148)).heap.size by simp)
  generalize hl:ps.length=n at *
  replace hl:=hid hl
  go_enter Tryz.func94,Tryz.ntmps94
  go_wp2_with (first
   |((with_reducible refine Za0 Zkg rfl rfl ?_))
   |(at_builtin;refine ZbG Zkg rfl (.tmp 5) (.tmp 6) rfl w.heap.size w.heap.size (some ⟨w.heap.size,0,none⟩) (some a) 0 n 0 c [] ps (fun _=>False) rfl rfl rfl hl.out.symm ho.out hs.out (fun b hb=>hb.elim) (by have:=hl.out;simp;omega) hz.out ?_;intro A7 c7 w9 ho9 hb9;rw[List.nil_append]at ho9 ⊢;have own9:=hid ho9;have W9:=hid ((W0.trans (hb9.mono (Vx8 _))));clear ho9 hb9))
  go_ret
  exact⟨A7,c7,by rw[← hl.out];rfl,own9.out,W9.out⟩
structure ChS where
 A:Option Addr
 k:Nat
 L:Option Addr
 m:Nat
def chV(c:Ch)(s:ChS):List Value:=[.slice s.A c.t.ns.length s.k,.int .i64 c.t.root,.slice s.L c.ls.length s.m]
structure ChB (N:Nat) (c:Ch):Prop where
 ns:c.t.ns.length≤N
 ls:c.ls.length≤1000
 xs:∀x∈c.ls,x.ds.length≤1000∧x.xs.length≤1000∧x.rs.length≤1000000
structure ChIn (F:Nat→Prop) (w:World) (c:Ch) (s:ChS):Prop where
 ns:Row F w s.A c.t.ns
 ls:Row F w s.L c.ls
 nc:c.t.ns.length≤s.k
 lc:c.ls.length≤s.m
theorem ChIn.bel{F:Nat→Prop}{w w':World}{c:Ch}{s:ChS}(h:ChIn F w c s)(hb:Below w.heap.size w w'):ChIn F w' c s:=⟨h.ns.bel hb,h.ls.bel hb,h.nc,h.lc⟩
structure ChOwn (w:World) (B:Nat) (c:Ch) (s:ChS):Prop where
 ns:OwnR 106 w B s.A s.k c.t.ns
 ls:OwnR 77 w B s.L s.m c.ls
theorem ChOwn.inn{w:World}{B:Nat}{c:Ch}{s:ChS}(h:ChOwn w B c s):ChIn (fun b=>B≤b) w c s:=⟨h.ns.row,h.ls.row,h.ns.cap.1,h.ls.cap.1⟩
theorem ChOwn.bel{w w':World}{B:Nat}{c:Ch}{s:ChS}(h:ChOwn w B c s)(hb:Below w.heap.size w w'):ChOwn w' B c s:=⟨h.ns.bel hb,h.ls.bel hb⟩
theorem ChOwn.base{w:World}{B B':Nat}{c:Ch}{s:ChS}(h:ChOwn w B c s)(hB:B'≤B):ChOwn w B' c s:=⟨OwnR.base h.ns hB,OwnR.base h.ls hB⟩
theorem YkJ(c:Ch)(s:ChS):(Tryz.prog.info? 27).map (·.size)=some (chV c s).length:=Yk5
theorem YmE{F:Nat→Prop}{w:World}{b o:Nat}{ls:List Lk}(h:Row F w (some ⟨b,o,none⟩) ls){j:Nat}(hj:j<ls.length):
  AhdAt F w (ahdA b o j) (aheadK ls j)∧∃s,LkAt w b (o+j * 102) ls[j] s∧LkOk F w ls[j] s:=by
 obtain⟨b1,o1,e1,s1,h1,h2⟩:=YkS h hj
 injection e1 with e1
 injection e1 with e1 e2
 subst e1 e2
 refine⟨?_,s1,h1,h2⟩
 rcases j with _|j
 ·exact rfl
 ·obtain⟨b1,o1,e1,s2,h3,h4⟩:=YkS h (show j<ls.length by omega)
  injection e1 with e1
  injection e1 with e1 e2
  subst e1 e2
  have:aheadK ls (j+1)=some (ls[j]'(by omega)):=by
   unfold aheadK
   rw[if_neg (by omega),Nat.add_sub_cancel,Vx9]
  rw[this]
  exact⟨b,o+j * 102,s2,rfl,h3,h4⟩
theorem Ymr:∀(args:Array Value) (W:World),(callFunc 54 args).run Tryz.prog W=.ok (.enter 54 args) W:=fun _ _=>by kernel_rfl
theorem Ymv{ls:List Lk}(h:0<ls.length):ls.getLast? =some (ls[ls.length-1]'(by omega)):=by rw[List.getLast?_eq_getElem?,Vx9]
theorem Ymw{c:Ch}(h:c.ls.length=0):mayC c=false:=by
 unfold mayC
 rw[List.eq_nil_of_length_eq_zero h]
 rfl
theorem YmR{c:Ch}(h:0<c.ls.length):mayC c=(decide (c.ls.length≤256)&&((mayT c.t&&decide (c.t.root=(c.ls[c.ls.length-1]'(by omega)).root))&&heldB (fitsB c.t.ns) c.ls)):=by
 unfold mayC
 rw[Ymv h,Bool.and_assoc (mayT c.t)]
theorem YkQ(F:Nat→Prop)(c:Ch)(s:ChS)(w:World)(h:ChIn F w c s)(hb:ChB 1000000 c)(hT:Tab w):
  Calls Tryz.prog 14 #[.agg (chV c s).toArray] w fun e w'=>e=.returned (.int .i64 (if mayC c=true then 0 else 8))∧Below w.heap.size w w':=by
 have hut:=Tryz.underlying24
 have huc:=Tryz.underlying27
 have W0:=Zad w (.cells (chV c s).toArray 27)
 have B0:=BoxC.new w s.A c.t.ns.length s.k c.t.root s.L c.ls.length s.m 27
 have hiT:=hid (show (Tryz.prog.info? 24).map (·.size)=some ([Value.slice s.A c.t.ns.length s.k,.int .i64 c.t.root]).length from Zah)
 have hiC:=hid (show (Tryz.prog.info? 27).map (·.size)=some ([Value.slice s.A c.t.ns.length s.k,.int .i64 c.t.root,.slice s.L c.ls.length s.m]).length from Yk5)
 have I0:=h.bel W0
 have T0:=hid (hT.bel W0 hT.low)
 have hlow:=hid hT.low
 obtain⟨az,haz⟩:∃v:Int,(if mayC c=true then (0:Int) else 8)=v:=⟨_,rfl⟩
 rw[haz]
 have hY:=hid (fun e:mayC c=true=>(show (0:Int)=az by rw[← haz,e];rfl))
 have hN:=hid (fun e:mayC c=false=>(show (8:Int)=az by rw[← haz,e];rfl))
 clear haz
 replace W0:=hid W0
 have l0:=B0.ls
 have y0:=hid B0.t
 have y1:=hid B0.all
 rcases Nat.eq_zero_or_pos c.ls.length with hz|hpos
 ·have e8:=hid (hN.out (Ymw hz))
  clear hN hY h I0 hb hiT y0 hT T0
  unfold chV at *
  rw[hz]at l0 y1 hiC W0 ⊢
  clear hz
  have hlt:=hid (show decide (((0:Nat):Int)<1)=true by decide)
  go_enter Tryz.func14,Tryz.ntmps14
  go_wp2
  generalize w.alloc (.cells [Value.slice s.A c.t.ns.length s.k,.int .i64 c.t.root,.slice s.L 0 s.m].toArray 27)=w0 at *
  refine rgB fun hHeld=>?_
  refine' tkP 0 rfl ?_
  refine' tkC 1 rfl l0 ?_
  refine' tkW 2 3 ?_
  simp only[sQ]
  refine' tkW 4 5 ?_
  refine' tkW 6 7 ?_
  simp only[sQ]
  refine' tkW 8 9 ?_
  refine' tkW 10 11 ?_
  simp only[sQ]
  refine' tkW 12 13 ?_
  refine' tkW 14 15 ?_
  simp only[sQ]
  refine' tkW 16 17 ?_
  simp only[sQ]
  refine dnN ?_
  go_wp2
  go_ret
  exact⟨by rw[← e8.out];rfl,W0.out.trans (hHeld.mono W0.out.size)⟩
 ·obtain⟨b,o,hA⟩:∃b o,s.L=some ⟨b,o,none⟩:=by
   obtain⟨b,o,h1,_⟩:=YkS h.ls hpos
   exact⟨b,o,h1⟩
  obtain⟨A,k,L,m⟩:=s
  unfold chV at *
  dsimp only at *
  subst hA
  have hm1:=YmR hpos
  have hlb:=hb.ls
  have q1:decide ((c.ls.length:Int)<1)=false:=Vy1 (by omega)
  obtain⟨s9,lk9,ok9⟩:=(YmE I0.ls (j:=c.ls.length-1) (by omega)).2
  clear ok9
  have R0:=hid I0.ns
  have X9:=hid lk9
  have hLa:=hid (fun W=>YkT A c.t.ns.length k c.t.root b o c.ls.length m hpos (by omega) W)
  obtain⟨x9,hx9⟩:∃x,c.ls[c.ls.length-1]'(by omega)=x:=⟨_,rfl⟩
  rw[hx9]at X9 hm1
  have hTr:=hid (fun W (hr:Row F W A c.t.ns) (hl:LkAt W b (o+(c.ls.length-1) * 102) x9 s9)=>Ylq F A k c.t.ns c.t.root b (o+(c.ls.length-1) * 102) x9 s9 W hr hb.ns hl)
  obtain⟨q,hq⟩:∃v,(mayT c.t&&decide (c.t.root=x9.root))=v:=⟨_,rfl⟩
  have hq2:(mayT ⟨c.t.ns,c.t.root⟩&&decide (c.t.root=x9.root))=q:=hq
  rw[hq2]at hTr
  rw[hq]at hm1
  have hHo:=hid (fun (W0:World) (hW0:Below w.heap.size w W0) (cb:Nat) (hcb:W0.rangeAt cb 0 [.slice A c.t.ns.length k,.int .i64 c.t.root]) (gb:Nat) hgb=>YlK (fitsB c.t.ns) c.ls 54 #[.pointer (some ⟨cb,0,none⟩)] b o gb m W0 Ymr (by omega) hgb (fun j hj W hW=>by
   have hWw:=hW0.trans (hW.mono hW0.size)
   have I1:=h.bel hWw
   obtain⟨h1,s1,h2,h3⟩:=YmE I1.ls hj
   have hx:=(hb.xs _ (List.getElem_mem hj)).2.1
   exact Ylp F F F cb A k c.t.ns c.t.root (ahdA b o j) (aheadK c.ls j) b (o+j * 102) c.ls[j] s1 W (Zab hW hcb) I1.ns hb.ns h.nc h1 h2 h3 (by omega) (hT.bel hWw hT.low)))
  by_cases h256:c.ls.length≤256
  ·have q2:decide ((c.ls.length:Int)>256)=false:=Vy1 (by omega)
   rw[Vy2 h256,Bool.true_and]at hm1
   replace hm1:=hid hm1
   clear h hb hT I0 lk9 hq hq2 hx9 hpos hlb h256
   go_enter Tryz.func14,Tryz.ntmps14
   go_wp2
   generalize hw0:w.alloc (.cells [Value.slice A c.t.ns.length k,.int .i64 c.t.root,.slice (some ⟨b,o,none⟩) c.ls.length m].toArray 27)=w0 at *
   refine rgB fun hHeld=>?_
   refine' tkP 0 rfl ?_
   refine' tkC 1 rfl l0 ?_
   refine' tkW 2 3 ?_
   simp only[sQ]
   refine' tkW 4 5 ?_
   refine' tkC 6 rfl l0 ?_
   refine' tkP 7 rfl ?_
   simp only[sQ]
   refine' tkW 8 9 ?_
   refine' tkW 10 11 ?_
   simp only[sQ]
   refine' tkM 12 rfl (fun _ h=>Zab h y0.out) hut hiT.out ?_
   refine' tkM 13 rfl (fun _ h=>Zab h y1.out) huc hiC.out ?_
   simp only[sQ]
   refine rdC 14 rfl (hLa.out _) fun w1 hB hHeld=>?_
   try simp only[sQ]
   refine rdC 15 rfl (hTr.out _ (R0.out.bel hHeld) (X9.out.bel hHeld)) fun w2 hB hHeld=>?_
   try simp only[sQ]
   refine' tkW 16 17 ?_
   simp only[sQ]
   refine dnN ?_
   have Y2:=hid (W0.out.trans (hHeld.mono W0.out.size))
   cases q with
   |false=>
    have e8:=hid (hN.out (by rw[hm1.out];rfl))
    go_wp2
    go_ret
    exact⟨by rw[← e8.out];rfl,Y2.out⟩
   |true=>
    have e8:=hid (show mayC c=heldB (fitsB c.t.ns) c.ls by rw[hm1.out];rfl)
    have z0:=hid (Zab hHeld y0.out)
    have l2:=Zab hHeld y1.out 2 _ rfl
    clear hm1 y0 y1 l0 hLa R0 X9
    go_wp2_with fail
    refine(Yme (some ⟨b,o,none⟩) c.ls.length m _).mono ?_
    rintro e w4 ⟨rfl,rfl⟩
    go_wp2_with fail
    refine(hHo.out _ (Y2.out.trans ((Zad _ _).mono Y2.out.size)) w.heap.size (Zab (Zad _ _) z0.out) _ (Vx0 _ _)).mono ?_
    rintro e w5 ⟨rfl,hB5⟩
    have Y5:=hid ((Y2.out.trans ((Zad _ _).mono Y2.out.size)).trans (hB5.mono (Y2.out.trans ((Zad _ _).mono Y2.out.size)).size))
    have e9:=e8.out
    clear hHo hB5 e8
    generalize heldB (fitsB c.t.ns) c.ls=v at *
    cases v with
    |false=>
     replace e9:=hid (hN.out e9)
     go_wp2
     go_ret
     exact⟨by rw[← e9.out];rfl,Y5.out⟩
    |true=>
     replace e9:=hid (hY.out e9)
     go_wp2
     go_ret
     exact⟨by rw[← e9.out];rfl,Y5.out⟩
  ·have q2:decide ((c.ls.length:Int)>256)=true:=Vy2 (by omega)
   rw[Vy1 h256,Bool.false_and]at hm1
   have e8:=hid (hN.out hm1)
   clear h hb hT I0 lk9 hq hq2 hx9 hTr hpos hlb h256 hm1 hHo hLa hN hY
   go_enter Tryz.func14,Tryz.ntmps14
   go_wp2
   generalize hw0:w.alloc (.cells [Value.slice A c.t.ns.length k,.int .i64 c.t.root,.slice (some ⟨b,o,none⟩) c.ls.length m].toArray 27)=w0 at *
   refine rgB fun hHeld=>?_
   refine' tkP 0 rfl ?_
   refine' tkC 1 rfl l0 ?_
   refine' tkW 2 3 ?_
   simp only[sQ]
   refine' tkW 4 5 ?_
   refine' tkC 6 rfl l0 ?_
   refine' tkP 7 rfl ?_
   simp only[sQ]
   refine' tkW 8 9 ?_
   refine' tkW 10 11 ?_
   simp only[sQ]
   refine' tkW 12 13 ?_
   refine' tkW 14 15 ?_
   simp only[sQ]
   refine' tkW 16 17 ?_
   simp only[sQ]
   refine dnN ?_
   go_wp2
   go_ret
   exact⟨by rw[← e8.out];rfl,W0.out.trans (hHeld.mono W0.out.size)⟩
theorem YkX(A:Option Addr)(n k:Nat)(root:Int)(L:Option Addr)(l m:Nat)(i:Int)(w:World):
  Calls Tryz.prog 44 #[.agg #[.slice A n k,.int .i64 root,.slice L l m],.int .i64 i] w fun e w'=>e=.returned (.bool (decide (0≤i)&&decide (i<(l:Int))))∧Below w.heap.size w w':=by
 have W0:=hid (Zad w (.cells #[.slice A n k,.int .i64 root,.slice L l m] 27))
 have l0:=(BoxC.new w A n k root L l m 27).ls
 obtain⟨p,hp⟩:∃v,decide (0≤i)=v:=⟨_,rfl⟩
 obtain⟨q,hq⟩:∃v,decide (i<(l:Int))=v:=⟨_,rfl⟩
 rw[hp,hq]
 go_enter Tryz.func44,Tryz.ntmps44
 cases p with
 |false=>
  go_wp2
  go_ret
  exact⟨rfl,W0.out⟩
 |true=>
  go_wp2
  go_ret
  exact⟨rfl,W0.out⟩
theorem YkK{P:Program}{fn:Func}{p u:Tmp}{ty:TypeId}{d:TypeDesc}(h:fn.results=#[.cell p ty,.tmp u])(tmps:Array Value)(w:World)(g:Nat)(cs:List Value)(e1:tmps.getD p undef=.pointer (some ⟨g,0,none⟩))
  (hg:w.rangeAt g 0 cs) (hu:P.underlying ty=some d) (hd:d.isRow=true) (hi:(P.info? ty).map (·.size)=some cs.length):(results fn tmps).run P w=.ok (.tuple #[.agg cs.toArray,tmps.getD u undef]) w:=by
 have h2:=run_loadVar_mid (P:=P) w g 0 ty cs d hg hu hd hi
 have e3:tmps[p]?.getD undef=.pointer (some ⟨g,0,none⟩):=by simpa using e1
 simp only[results,h]
 simp[Sem.run_bind,Result.andThen,e3,asAddr,Sem.run_pure,h2]
def headC(c:Ch):Hd:=if mayC c=true then topH c else zH
theorem Yl2{c:Ch}(h:0<c.ls.length):topH c=(c.ls[c.ls.length-1]'(by omega)).h:=by
 unfold topH
 rw[Ymv h]
 rfl
theorem Ylb{c:Ch}(h:mayC c=true):0<c.ls.length∧c.ls.length≤256:=by
 obtain⟨l,h1,h2,_⟩:=YkM.1 h
 refine⟨?_,h2⟩
 rcases Nat.eq_zero_or_pos c.ls.length with h|h
 ·rw[List.eq_nil_of_length_eq_zero h]at h1
  cases h1
 ·exact h
theorem YlJ(F:Nat→Prop)(c:Ch)(s:ChS)(w:World)(h:ChIn F w c s)(hb:ChB 1000000 c)(hT:Tab w):
  Calls Tryz.prog 17 #[.agg (chV c s).toArray] w fun e w'=>e=.returned (.tuple #[.agg (hdC (headC c)).toArray,.int .i64 (if mayC c=true then 0 else 8)])∧Below w.heap.size w w':=by
 have huc:=Tryz.underlying27
 have huh:=Tryz.underlying51
 have W0:Below w.heap.size w ((w.alloc (.cells (chV c s).toArray 27)).alloc (.cells zHdC 51)):=Zag (Zad _ _) (Zad _ _)
 have B0:=(BoxC.new w s.A c.t.ns.length s.k c.t.root s.L c.ls.length s.m 27).bel (Zad _ (.cells zHdC 51))
 have z0:=hid (Vx0 (w.alloc (.cells (chV c s).toArray 27)) (.cells zHdC 51))
 have hiC:=hid (YkJ c s)
 have I0:=hid (h.bel W0)
 have T0:=hid (hT.bel W0 hT.low)
 have hlow:=hid hT.low
 have hCk:=hid (fun W h1 h2=>YkQ F c s W h1 hb h2)
 have y1:Hid (((w.alloc (.cells (chV c s).toArray 27)).alloc (.cells zHdC 51)).rangeAt w.heap.size 0 (chV c s)):=hid B0.all
 have hz:=hid (show Tryz.prog.built 51 []=some (hdC zH).toArray from Zcc)
 have zz:=hid (show Tryz.prog.built 51 []=some (hdC zH).toArray from Zcc)
 have js:=hid (Zbu zH)
 have ns:=hid (ZbM zH)
 obtain⟨q,hq⟩:∃v,mayC c=v:=⟨_,rfl⟩
 have hpos:=fun (e:mayC c=true)=>Ylb e
 have htop:=fun (e:0<c.ls.length)=>Yl2 e
 obtain⟨hh,hhd⟩:∃x,headC c=x:=⟨_,rfl⟩
 rw[hhd]
 unfold headC at hhd
 rw[hq]at hCk hpos hhd ⊢
 replace hhd:=hid hhd
 replace W0:=hid W0
 replace hpos:=hid hpos
 replace htop:=hid htop
 clear h hT hq B0
 simp only[Vx2]at z0
 go_enter Tryz.func17,Tryz.ntmps17
 go_wp2_with (first
  |(with_reducible refine Zac rfl 51 rfl zHdC Za9 ?_)
  |(with_reducible refine lDr y1.out hiC.out huc ?_))
 try simp only[Vx2]
 generalize (w.alloc (.cells (chV c s).toArray 27)).alloc (.cells zHdC 51)=w0 at *
 refine(hCk.out _ I0.out T0.out).mono ?_
 rintro e w1 ⟨rfl,hB⟩
 have I1:=hid (I0.out.bel hB)
 have z1:=hid ((hB.block _ (block_lt z0.out)).trans z0.out)
 have y2:=hid (Zab hB y1.out)
 have W1:=hid (W0.out.trans (hB.mono W0.out.size))
 clear hB hCk z0 y1 I0 W0 T0
 cases q with
 |false=>
  have ehh:Hid (zH=hh):=hid (by rw[← hhd.out];rfl)
  clear hhd
  go_wp2_with (first
   |((with_reducible refine Zaf rfl 51 _ rfl (hdC zH).toArray [] ?_ ?_ ?_);exact hz.out;rfl)
   |((with_reducible refine stW 2 9 (w.heap.size+1) 51 zHdC ?_ ?_ ?_ ?_ ?_);exact z1.out;exact js.out;rfl;exact ns.out;intro w2 hgS hbS hsS))
  exact Vy0 (YkK Tryz.results17 _ _ (w.heap.size+1) (hdC zH) rfl (Zae hgS) huh rfl js.out) rfl ⟨by rw[← ehh.out];rfl,W1.out.grown hbS W1.out.size (fun g e=>by injection e with e;omega)⟩
 |true=>
  have hp:=(hpos.out (by first|trivial|rfl)).1
  have hq9:=(hpos.out (by first|trivial|rfl)).2
  have ht:=htop.out hp
  obtain⟨b,o,hA,s9,lk9,ok9⟩:=YkS I1.out.ls (show c.ls.length-1<c.ls.length by omega)
  obtain⟨A,k,L,m⟩:=s
  dsimp only at hA
  subst hA
  have hLa:=hid (fun W=>YkT A c.t.ns.length k c.t.root b o c.ls.length m hp (by omega) W)
  have ehh:=hid (show (c.ls[c.ls.length-1]'(by omega)).h=hh by rw[← ht,←hhd.out];rfl)
  clear hhd
  have X1:=hid lk9
  generalize c.ls[c.ls.length-1]=x9 at *
  have jx:=hid (Zbu x9.h)
  have nx:=hid (ZbM x9.h)
  have js2:=hid (show (Tryz.prog.info? 51).map (·.size)=some (hdC x9.h).toArray.size from Zbu x9.h)
  have zs2:=hid (show zHdC.size=(hdC x9.h).toArray.size by show (hdC zH).toArray.size=_;rw[Vx7,Vx7,ZlC,ZlC])
  clear lk9 ok9 ht hp hq9 htop hpos I1
  go_wp2_with ((with_reducible refine lDr y2.out hiC.out huc ?_))
  refine(hLa.out _).mono ?_
  rintro e w2 ⟨rfl,hB⟩
  have R2:=hid (X1.out.bel hB).hd
  have z2:=hid ((hB.block _ (block_lt z1.out)).trans z1.out)
  have W2:=hid (W1.out.trans (hB.mono W1.out.size))
  clear hB z1 X1 W1 y2 hLa
  generalize hcx:hdC x9.h=ch at *
  replace hcx:=hid hcx
  go_wp2_with (first
   |(with_reducible refine lDr R2.out jx.out huh ?_)
   |((with_reducible refine stW 2 15 (w.heap.size+1) 51 zHdC ?_ ?_ ?_ ?_ ?_);exact z2.out;exact js2.out;exact zs2.out;exact nx.out;intro w3 hgS hbS hsS))
  exact Vy0 (YkK Tryz.results17 _ _ (w.heap.size+1) ch rfl (Zae hgS) huh rfl jx.out) rfl ⟨by rw[← ehh.out,hcx.out];rfl,W2.out.grown hbS W2.out.size (fun g e=>by injection e with e;omega)⟩
theorem Ymc(A B:Option Addr)(n m c d:Nat):Tryz.prog.built 35 [(0,.slice A n c),(1,.slice B m d)]=some #[Value.slice A n c,.slice B m d]:=by kernel_rfl
theorem Ym8(w:World)(l:List Value)(t u:TypeId):
  let W:=(w.alloc (.cells l.toArray t)).alloc (.cells zBodyC u)
  W.rangeAt w.heap.size 0 l∧W.heap[w.heap.size+1]? =some (.cells zBodyC u (0,0))∧Below w.heap.size w W:=by
 intro W
 have h1:=Zae (Vx0 w (.cells l.toArray t))
 have h2:=Vx0 (w.alloc (.cells l.toArray t)) (.cells zBodyC u)
 simp only[Vx2]at h2
 exact⟨Zab (Zad _ _) h1,h2,Zag (Zad _ _) (Zad _ _)⟩
theorem Yk0(F G:Nat→Prop)(D:Option Addr)(d:Nat)(ds:List Dp)(X:Option Addr)(e:Nat)(xs:List Tx)(w:World)(hD:Row F w D ds)(hX:Row G w X xs)(l1:ds.length≤1000000)(l2:xs.length≤1000000):
  Calls Tryz.prog 42 #[.agg #[.slice D ds.length d,.slice X xs.length e]] w fun r w'=>∃A' c' B' d',r=.returned (.agg #[.slice A' ds.length c',.slice B' xs.length d'])∧OwnR 142 w' w.heap.size A' c' ds∧OwnR 145 w' w.heap.size B' d' xs∧Below w.heap.size w w':=by
 have hub:=Tryz.underlying35
 obtain⟨Y0,Z0,W0⟩:=Ym8 w [Value.slice D ds.length d,.slice X xs.length e] 35 35
 have y0:=Y0 0 _ rfl
 have y1:=Y0 1 _ rfl
 have D0:=hid ((hD.mono (G:=fun b=>b<w.heap.size) fun b _ h=>h).bel W0)
 have X0:=hid ((hX.mono (G:=fun b=>b<w.heap.size) fun b _ h=>h).bel W0)
 have hCd:=hid (fun W h=>YlA (fun b=>b<w.heap.size) D d ds W h l1)
 have hCx:=hid (fun W h=>YlC (fun b=>b<w.heap.size) X e xs W h l2)
 have hbl:=hid (fun A B c d=>Ymc A B ds.length xs.length c d)
 have lt0:=hid (block_lt Z0)
 replace W0:=hid W0
 replace Z0:=hid Z0
 clear Y0 hD hX
 go_enter Tryz.func42,Tryz.ntmps42
 go_wp2_with ((with_reducible refine Zac rfl 35 rfl zBodyC YbU ?_))
 generalize (w.alloc (.cells #[Value.slice D ds.length d,.slice X xs.length e] 35)).alloc (.cells zBodyC 35)=w0 at *
 refine wp_region_noPanic ?_
 refine wp_region_held_drew (S:=fun W=>Chg (fun b=>b=w.heap.size+1) w0 W) (by kernel_rfl) ?_ (fun hHeld=>?_)
 ·exact Chg.of_bel (Zao w0)
 refine' tkP 0 rfl ?_
 refine' tkF 1 (fun W hSw=>YkP hSw (by dsimp only;omega) y0) rfl ?_
 refine' tkP 3 rfl ?_
 refine' tkF 4 (fun W hSw=>YkP hSw (by dsimp only;omega) y1) rfl ?_
 simp only[sQ]
 refine rdH 2 rfl fun K hK=>?_
 go_simp
 refine(hCd.out _ (D0.out.chg hHeld (fun b hb _=>by omega))).mono ?_
 rintro r w1 ⟨A1,c1,rfl,o1,hB⟩
 have z1:=hid ((hB.block _ (block_lt (show w0.drew.heap[w.heap.size+1]? =_ from Z0.out))).trans Z0.out)
 go_wp2_with fail
 refine hK.out _ _ (hHeld.trans (Chg.of_bel hB)) fun hHeld=>?_
 clear hK K
 try simp only[sQ]
 refine rdH 5 rfl fun K hK=>?_
 go_simp
 refine(hCx.out _ (X0.out.chg hHeld (fun b hb _=>by omega))).mono ?_
 rintro r w2 ⟨A2,c2,rfl,o2,hB⟩
 have z2:=hid ((hB.block _ (block_lt z1.out)).trans z1.out)
 have O1:=hid (o1.bel hB)
 have s2:=hid (block_lt z1.out)
 go_wp2_with fail
 refine hK.out _ _ (hHeld.trans (Chg.of_bel hB)) fun hHeld=>?_
 clear hK K
 try simp only[sQ]
 refine' tkH 6 rfl (Yb1 (by rfl) _ _ rfl _ _ (hbl.out _ _ _ _) rfl) ?_
 simp only[sQ]
 refine rdH 7 rfl fun K hK=>?_
 refine Zaj rfl 35 (.tmp 2) (.tmp 9) rfl (w.heap.size+1) _ rfl rfl 35 zBodyC z2.out (ZfA _ _) rfl (YdH _ _ _ _ _ _) ?_
 intro w3 d3 hG
 refine hK.out _ _ (hHeld.trans ((Chg.of_grown hG).mono (fun b _ e=>by injection e))) fun hHeld=>?_
 clear hK K
 try simp only[sQ]
 refine dnN ?_
 go_wp2
 refine Vy0 (results_cell_row Tryz.results42 _ _ (w.heap.size+1) 35 _ (0,0) _ rfl d3 hub rfl (ZfA _ _)) rfl ⟨A1,c1,A2,c2,rfl,?_,?_,W0.out.trans (hHeld.below W0.out.size (fun b hb=>by omega))⟩
 ·exact OwnR.base (OwnQ.keptAtP O1.out hG (by have:=lt0.out;simpa using this) (by have:=lt0.out;simpa using this)) (by have:=W0.out.size;simpa using this)
 ·exact OwnR.base (OwnQ.keptAtP o2 hG (by have:=s2.out;omega) (by have:=s2.out;omega)) (by have:=s2.out;omega)
theorem OwnR.soft{α:Type}[Enc α]{E:TypeId}{w:World}{B:Nat}{A:Option Addr}{c:Nat}{xs:List α}(h:OwnR E w B A c xs):∃G:Nat→Prop,Row G w A xs∧∀b,G b→B≤b∧Soft w b:=by
 obtain⟨F,h1,h2⟩:=h
 refine⟨_,h1.row,fun b hb=>?_⟩
 rcases hb with hb|⟨a,ha,rfl⟩
 ·exact h2 b hb
 ·obtain⟨cur,_,hg⟩:=h1.form a ha
  exact⟨(h1.blk a ha).1,_,_,hg⟩
theorem LkOk.mono{F G:Nat→Prop}{w:World}{x:Lk}{s:LkS}(h:LkOk F w x s)(hG:∀b,F b→b<w.heap.size→G b):LkOk G w x s:=
 ⟨h.hd,h.root,h.ds.mono hG,h.xs.mono hG,h.rs.mono hG,h.dc,h.xc,h.rc⟩
theorem Ym2{E1 E2 E3:TypeId}{w:World}{B:Nat}{x:Lk}{A1 A2 A3:Option Addr}{c1 c2 c3:Nat}(h1:x.h.ok)(h2:I64 x.root)(o1:OwnR E1 w B A1 c1 x.ds)(o2:OwnR E2 w B A2 c2 x.xs)(o3:OwnR E3 w B A3 c3 x.rs):
  ∃G:Nat→Prop,LkOk G w x ⟨A1,c1,A2,c2,A3,c3⟩∧∀b,G b→B≤b∧Soft w b:=by
 obtain⟨G1,r1,k1⟩:=OwnR.soft o1
 obtain⟨G2,r2,k2⟩:=OwnR.soft o2
 obtain⟨G3,r3,k3⟩:=OwnR.soft o3
 refine⟨fun b=>G1 b∨G2 b∨G3 b,⟨h1,h2,r1.mono fun b h _=>.inl h,r2.mono fun b h _=>.inr (.inl h),r3.mono fun b h _=>.inr (.inr h),o1.cap,o2.cap,o3.cap⟩,fun b hb=>?_⟩
 rcases hb with h|h|h
 ·exact k1 b h
 ·exact k2 b h
 ·exact k3 b h
theorem Yne(x:Lk)(s:LkS)(D X:Option Addr)(d e:Nat):setA (lkC x s).toArray 99 [.slice D x.ds.length d,.slice X x.xs.length e]=(lkC x { s with D:=D,d:=d,X:=X,e:=e }).toArray:=by
 have h:=ZiG (hdC x.h++[.int .i64 x.root]) [.slice s.D x.ds.length s.d,.slice s.X x.xs.length s.e] [.slice s.R x.rs.length s.r] [.slice D x.ds.length d,.slice X x.xs.length e] rfl
 rw[show (hdC x.h++[Value.int .i64 x.root]).length=99 by rw[Vx3,ZlC];rfl]at h
 simpa [lkC,lkT] using h
theorem Ynf(x:Lk)(s:LkS)(R:Option Addr)(r:Nat):(lkC x s).toArray.setIfInBounds 101 (.slice R x.rs.length r)=(lkC x { s with R:=R,r:=r }).toArray:=by
 rw[List.setIfInBounds_toArray]
 unfold lkC
 rw[List.set_append_right _ _ (by rw[ZlC];decide),ZlC]
 rfl
theorem YkY(F:Nat→Prop)(L:Option Addr)(c n:Nat)(ls:List Lk)(w:World)(hr:Row F w L ls)(hn:n=ls.length)(hc:ls.length≤1000000)(hx:∀x∈ls,x.ds.length≤1000000∧x.xs.length≤1000000∧x.rs.length≤1000000):
  Calls Tryz.prog 43 #[.slice L n c] w fun e w'=>∃A' c',e=.returned (.slice A' ls.length c')∧OwnR 77 w' w.heap.size A' c' ls∧Below w.heap.size w w':=by
 subst hn
 have hul:=Tryz.underlying77
 have hub:=Tryz.underlying35
 go_enter Tryz.func43,Tryz.ntmps43
 go_wp2
 go_loopw [3,8] (fun v i wr=>∃(j:Nat) (A':Option Addr) (c':Nat),j≤ls.length∧i=.int .i64 j∧v=.slice A' (ls.take j).length c'∧OwnR 77 wr w.heap.size A' c' (ls.take j)∧Below w.heap.size w wr) (fun _ i _=>ls.length-(intOf i).toNat)
 case atStart=>exact⟨0,none,0,Nat.zero_le _,rfl,rfl,OwnR.nil _ _,Below.refl _ _⟩
 case round=>
  obtain⟨j,A0,c0,hj,rfl,rfl,ho,hb⟩:=hrel
  have hxl:(ls.take j).length≤j:=by rw[List.length_take];omega
  by_cases hlt:j<ls.length
  ·have E:=hid (Vy5 hlt)
   obtain⟨x1,x2,x3⟩:=hx _ (List.getElem_mem hlt)
   obtain⟨b,o,hA,s,lk,ok⟩:=YkS (hr.bel hb) hlt
   subst hA
   have R1:=hid lk.all
   have hz9:=hid (Vx0 wr (.cells zLkC 77))
   have hbs:=hb.size
   replace hb:=hid hb
   have hA0:=hid ho.blk
   replace ho:=hid ho
   generalize hy:ls.take (j+1)=y at *
   replace hy:=hid hy
   generalize ls.take j=xp at *
   generalize hxx:ls[j]=x at *
   replace hxl:=hid hxl
   have hTb:=hid (fun W hD hX=>Yk0 (fun b=>b<wr.heap.size) (fun b=>b<wr.heap.size) s.D s.d x.ds s.X s.e x.xs W hD hX x1 x2)
   have hCr:=hid (fun W hR=>YlB (fun b=>b<wr.heap.size) s.R s.r x.rs W hR x3)
   have hx1:=hid ok.hd
   have hx2:=hid ok.root
   have K1:=hid (ok.mono (G:=fun b=>b<wr.heap.size) fun b _ h=>h)
   have is1:=hid (YkW x s)
   have zs1:=hid (YlX x s)
   have os1:=hid (Ymy x s)
   clear hxx lk ok hr hx x1 x2 x3
   go_wp2_with (first
    |(with_reducible refine lDr R1.out is1.out hul ?_)
    |(with_reducible refine Zac rfl 77 rfl zLkC YlW ?_)
    |((with_reducible refine stW 5 11 _ 77 zLkC ?_ ?_ ?_ ?_ ?_);exact hz9.out;exact is1.out;exact zs1.out;exact os1.out;intro w4 hg4 hb4 hs4;have X4:=hid (Zan rfl hb4);have g4:=hid hg4;have d4:=hid (show w4.rangeAt wr.heap.size 99 [.slice s.D x.ds.length s.d,.slice s.X x.xs.length s.e] from (LkAt.of (o:=0) (Zae hg4)).bd);clear hg4 hb4 hs4)
    |(with_reducible refine lDr d4.out (ZfA _ _) hub ?_))
   have K4:=hid (K1.out.bel X4.out)
   refine(hTb.out _ K4.out.ds K4.out.xs).mono ?_
   rintro e w5 ⟨A1,c1,A2,c2,rfl,o1,o2,hB5⟩
   have g5:=hid ((hB5.block _ (block_lt g4.out)).trans g4.out)
   have O1:=hid o1
   have O2:=hid o2
   have X5:=hid (X4.out.trans (hB5.mono X4.out.size))
   have lt5:=hid (block_lt g4.out)
   have R5:=hid (K4.out.bel hB5).rs
   clear hB5 o1 o2 g4 d4 K4 K1 hz9 R1
   have fit:=hid (show 99+([Value.slice A1 x.ds.length c1,.slice A2 x.xs.length c2]:List Value).length≤(lkC x s).toArray.size by rw[Vx7,Yk8];show 101≤102;decide)
   go_wp2_with (((refine ZbZ rfl 35 (.tmp 15) (.tmp 14) rfl wr.heap.size 99 [.slice A1 x.ds.length c1,.slice A2 x.xs.length c2] _ _ rfl rfl g5.out fit.out (ZfA _ _) (YdH _ _ _ _ _ _) ?_);intro w6 hg6 hC6;rw[Yne]at hg6;have g6:=hid hg6;have C6:=hid hC6;have d6:=(show w6.cell? ⟨wr.heap.size,101,none⟩=some (.slice s.R x.rs.length s.r) from (LkAt.of (o:=0) (Zae hg6)).R);clear hg6 hC6))
   have R6:=R5.out.chg C6.out (fun b hb _ e=>by have e':b=wr.heap.size:=e;omega)
   have O61:=hid (OwnQ.keptG O1.out (fun b hl hne=>C6.out.block b hl hne) lt5.out lt5.out)
   have O62:=hid (OwnQ.keptG O2.out (fun b hl hne=>C6.out.block b hl hne) lt5.out lt5.out)
   have X6:=hid (X5.out.trans (C6.out.below (B:=wr.heap.size) X5.out.size (fun b hb e=>by have e':b=wr.heap.size:=e;omega)))
   have lt6:=hid (block_lt g6.out)
   clear O1 O2 R5 g5 X5 fit C6
   refine(hCr.out _ R6).mono ?_
   rintro e w7 ⟨A3,c3,rfl,o3,hB7⟩
   have g7:=hid ((hB7.block _ (block_lt g6.out)).trans g6.out)
   have O71:=hid (O61.out.bel hB7)
   have O72:=hid (O62.out.bel hB7)
   have O73:=hid o3
   have X7:=hid (X6.out.trans (hB7.mono X6.out.size))
   clear O61 O62 o3 hB7 g6 d6 R6 X6 hCr hTb
   have fit7:=hid (show 101<(lkC x ⟨A1,c1,A2,c2,s.R,s.r⟩).toArray.size by rw[Vx7,Yk8];decide)
   have siR:=hid (show (Tryz.prog.info? 75).map (·.size)=some 1 by kernel_rfl)
   have is3:=hid (YkW x ⟨A1,c1,A2,c2,A3,c3⟩)
   have ln3:=hid (show (lkC x ⟨A1,c1,A2,c2,A3,c3⟩).length=Enc.size Lk from Yk8 x ⟨A1,c1,A2,c2,A3,c3⟩)
   have szL:=hid (show Enc.size Lk≤16777216 by show 102≤16777216;decide)
   go_wp2_with (first
    |((refine Za8 rfl 75 (.tmp 19) (.tmp 18) rfl wr.heap.size 101 (.slice A3 x.rs.length c3) _ _ rfl rfl rfl rfl g7.out fit7.out siR.out ?_);intro w8 hg8 hC8;rw[Ynf]at hg8;have g8:=hid (Zae hg8);have C8:=hC8;have X8:=hid (X7.out.trans (C8.below (B:=wr.heap.size) X7.out.size (fun b hb e=>by have e':b=wr.heap.size:=e;omega)));obtain⟨G,lkG,hG⟩:=Ym2 hx1.out hx2.out (OwnR.base (OwnQ.keptG O71.out (fun b hl hne=>C8.block b hl hne) lt5.out lt5.out) (Nat.le_of_lt lt5.out)) (OwnR.base (OwnQ.keptG O72.out (fun b hl hne=>C8.block b hl hne) lt5.out lt5.out) (Nat.le_of_lt lt5.out)) (OwnR.base (OwnQ.keptG O73.out (fun b hl hne=>C8.block b hl hne) lt6.out lt6.out) (Nat.le_of_lt lt6.out));have R8:=hid (Yli lkG);have Q8:=hid hG;have H8:=hid (ho.out.bel X8.out);clear hg8 hC8 C8 lkG hG)
    |(with_reducible refine lDr g8.out is3.out hul ?_)
    |((with_reducible refine ZaC Ylo szL.out rfl (.tmp 21) rfl (lkC x ⟨A1,c1,A2,c2,A3,c3⟩) ?_ ln3.out ?_);rfl)
    |(at_builtin;refine ZbG Ylo rfl (.tmp 20) (.tmp 22) rfl w.heap.size w.heap.size A0 _ xp.length 1 c0 1 xp [x] G rfl rfl rfl rfl (H8.out.alloc _) (ZaE R8.out) (fun b hb=>⟨Vx1 hbs (Q8.out b hb).1,(Q8.out b hb).2.kept ((Zad _ _).block _ (Q8.out b hb).2.lt),fun a ha e=>by have h1:=(hA0.out a ha).2;have h2:=(Q8.out b hb).1;omega⟩) (by have:=hxl.out;simp;omega) (by rw[Vx2];have:=X8.out.size;omega) ?_;intro A5 c5 w9 ho5 hB5;rw[← E.out]at ho5 ⊢;have H9:=hid ho5;have B9:=hid ((hb.out.trans (X8.out.mono hbs)).trans (((Zad _ _).mono (Vx1 hbs X8.out.size)).trans hB5));clear ho5 hB5))
   go_roundw
   case rel=>exact⟨j+1,A5,c5,by omega,by go_num,by rw[hy.out],by rw[hy.out];exact H9.out,B9.out⟩
   case measure=>simp[intOf];omega
  ·obtain rfl:j=ls.length:=by omega
   rw[List.take_length]at ho ⊢
   go_wp2
   go_ret
   exact⟨A0,c0,rfl,ho,hb⟩
def zCh:Ch:=⟨⟨[],0⟩,[]⟩
def zChS:ChS:=⟨none,0,none,0⟩
def zChC:Array Value:=(chV zCh zChS).toArray
theorem YkN:(Tryz.prog.info? 27).map (fun i=>(i.zero,i.size))=some (some (.agg zChC),zChC.size):=by kernel_rfl
theorem Ylf:Tryz.prog.built 27 []=some zChC:=by kernel_rfl
theorem Ylu(A L:Option Addr)(n k l m:Nat)(r:Int):Tryz.prog.built 27 [(0,.agg #[.slice A n k,.int .i64 r]),(1,.slice L l m)]=some #[Value.slice A n k,.int .i64 r,.slice L l m]:=by kernel_rfl
theorem YkR(c:Ch)(s:ChS):(chV c s).toArray.all (·.oneCell')=true:=all_oneCell_toArray fun u hu=>by
 simp only[chV,List.mem_cons,List.not_mem_nil,or_false]at hu
 rcases hu with rfl|rfl|rfl<;>rfl
theorem Ymq(w:World)(l:List Value)(t u:TypeId):
  let W:=(w.alloc (.cells l.toArray t)).alloc (.cells zChC u)
  W.rangeAt w.heap.size 0 l∧W.heap[w.heap.size+1]? =some (.cells zChC u (0,0))∧Below w.heap.size w W:=by
 intro W
 have h1:=Zae (Vx0 w (.cells l.toArray t))
 have h2:=Vx0 (w.alloc (.cells l.toArray t)) (.cells zChC u)
 simp only[Vx2]at h2
 exact⟨Zab (Zad _ _) h1,h2,Zag (Zad _ _) (Zad _ _)⟩
theorem ChOwn.kept{w w':World}{B g:Nat}{c:Ch}{s:ChS}(h:ChOwn w B c s)(hk:∀b,b<w.heap.size→b≠g→w'.heap[b]? =w.heap[b]?)(h0:g<B):ChOwn w' B c s:=⟨OwnQ.keptG h.ns hk h0 h0,OwnQ.keptG h.ls hk h0 h0⟩
theorem ChOwn.nil(w:World)(B:Nat):ChOwn w B zCh zChS:=⟨OwnR.nil _ _,OwnR.nil _ _⟩
theorem YlL(F:Nat→Prop)(c:Ch)(s:ChS)(w:World)(h:ChIn F w c s)(hb:ChB 1000000 c)(hv:∀x∈c.t.ns,x.v.length≤1000000):
  Calls Tryz.prog 26 #[.agg (chV c s).toArray] w fun e w'=>∃s',e=.returned (.agg (chV c s').toArray)∧ChOwn w' w.heap.size c s'∧Below w.heap.size w w':=by
 have hut:=Tryz.underlying24
 have huc:=Tryz.underlying27
 obtain⟨Y0,Z0,W0⟩:=Ymq w (chV c s) 27 27
 have B0:=BoxC.of (show _ from Y0)
 have y2:=B0.ls
 have y0:=hid B0.t
 have hlb:=hb.ls
 have hiT:=hid (show (Tryz.prog.info? 24).map (·.size)=some ([Value.slice s.A c.t.ns.length s.k,.int .i64 c.t.root]).length from Zah)
 have N0:=hid ((h.ns.mono (G:=fun b=>b<w.heap.size) fun b _ h=>h).bel W0)
 have L0:=hid ((h.ls.mono (G:=fun b=>b<w.heap.size) fun b _ h=>h).bel W0)
 have hTw:=hid (fun W h=>ZeC (fun b=>b<w.heap.size) s.A s.k c.t.ns c.t.root W h hb.ns hv)
 have hLn:=hid (fun W h=>YkY (fun b=>b<w.heap.size) s.L s.m c.ls.length c.ls W h rfl (by omega) (fun x hx=>by have:=hb.xs x hx;omega))
 have hbl:=hid (fun A L k m=>Ylu A L c.t.ns.length k c.ls.length m c.t.root)
 have lt0:=hid (block_lt Z0)
 replace W0:=hid W0
 replace Z0:=hid Z0
 clear B0 Y0 h hb hv hlb
 go_enter Tryz.func26,Tryz.ntmps26
 go_wp2_with ((with_reducible refine Zac rfl 27 rfl zChC YkN ?_))
 try simp only[Vx2]
 generalize (w.alloc (.cells (chV c s).toArray 27)).alloc (.cells zChC 27)=w0 at *
 refine wp_region_noPanic ?_
 refine wp_region_held_drew (S:=fun W=>Chg (fun b=>b=w.heap.size+1) w0 W) (by kernel_rfl) ?_ (fun hHeld=>?_)
 ·exact Chg.of_bel (Zao w0)
 refine' tkP 0 rfl ?_
 refine' tkM 1 rfl (fun _ h=>Zak y0.out (fun hb=>h.block _ hb (by omega))) hut hiT.out ?_
 refine' tkP 3 rfl ?_
 refine' tkF 4 (fun W hSw=>YkP hSw (by dsimp only;omega) y2) rfl ?_
 simp only[sQ]
 refine rdH 2 rfl fun K hK=>?_
 go_simp
 refine(hTw.out _ (N0.out.chg hHeld (fun b hb _=>by omega))).mono ?_
 rintro r w1 ⟨A1,c1,rfl,o1,hB⟩
 have z1:=hid ((hB.block _ (block_lt (show w0.drew.heap[w.heap.size+1]? =_ from Z0.out))).trans Z0.out)
 go_wp2_with fail
 refine hK.out _ _ (hHeld.trans (Chg.of_bel hB)) fun hHeld=>?_
 clear hK K
 try simp only[sQ]
 refine rdH 5 rfl fun K hK=>?_
 go_simp
 refine(hLn.out _ (L0.out.chg hHeld (fun b hb _=>by omega))).mono ?_
 rintro r w2 ⟨A2,c2,rfl,o2,hB⟩
 have z2:=hid ((hB.block _ (block_lt z1.out)).trans z1.out)
 have O1:=hid (o1.bel hB)
 have s2:=hid (block_lt z1.out)
 go_wp2_with fail
 refine hK.out _ _ (hHeld.trans (Chg.of_bel hB)) fun hHeld=>?_
 clear hK K
 try simp only[sQ]
 refine' tkH 6 rfl (Yb1 (by rfl) _ _ rfl _ _ (hbl.out _ _ _ _) rfl) ?_
 simp only[sQ]
 refine rdH 7 rfl fun K hK=>?_
 refine Zaj rfl 27 (.tmp 2) (.tmp 9) rfl (w.heap.size+1) _ rfl rfl 27 zChC z2.out (YkJ c ⟨A1,c1,A2,c2⟩) rfl (YkR c ⟨A1,c1,A2,c2⟩) ?_
 intro w3 d3 hG
 refine hK.out _ _ (hHeld.trans ((Chg.of_grown hG).mono (fun b _ e=>by injection e))) fun hHeld=>?_
 clear hK K
 try simp only[sQ]
 refine dnN ?_
 go_wp2
 have O2:ChOwn w2 w.heap.size.succ.succ c ⟨A1,c1,A2,c2⟩:=⟨OwnR.base O1.out (by have:=lt0.out;simp;omega),OwnR.base o2 (by have:=s2.out;omega)⟩
 refine Vy0 (results_cell_row Tryz.results26 _ _ (w.heap.size+1) 27 _ (0,0) _ rfl d3 huc rfl (YkJ c ⟨A1,c1,A2,c2⟩)) rfl ⟨⟨A1,c1,A2,c2⟩,rfl,?_,W0.out.trans (hHeld.below W0.out.size (fun b hb=>by omega))⟩
 exact(O2.kept (g:=w.heap.size+1) (fun b hl hne=>hG.block b hl (fun e=>hne (by injection e))) (by omega)).base (by omega)
theorem ChIn.mono{F G:Nat→Prop}{w:World}{c:Ch}{s:ChS}(h:ChIn F w c s)(hG:∀b,F b→b<w.heap.size→G b):ChIn G w c s:=⟨h.ns.mono hG,h.ls.mono hG,h.nc,h.lc⟩
theorem ChIn.chg{F G:Nat→Prop}{w w':World}{c:Ch}{s:ChS}(h:ChIn F w c s)(hc:Chg G w w')(hFG:∀b,F b→b<w.heap.size→¬G b):ChIn F w' c s:=⟨h.ns.chg hc hFG,h.ls.chg hc hFG,h.nc,h.lc⟩
theorem ChIn.cut{F:Nat→Prop}{w:World}{c:Ch}{s:ChS}(h:ChIn F w c s){k:Nat}(hk:k<c.ls.length):ChIn F w (cutC c k) s:=by
 rw[YkV hk]
 exact⟨h.ns,h.ls.take _,h.nc,by have:=h.lc;simp only[List.length_take];omega⟩
theorem ChB.cut{N:Nat}{c:Ch}(h:ChB N c){k:Nat}(hk:k<c.ls.length):ChB N (cutC c k):=by
 rw[YkV hk]
 exact⟨h.ns,by have:=h.ls;simp only[List.length_take];omega,fun x hx=>h.xs x (List.mem_of_mem_take hx)⟩
theorem Ymx{c:Ch}(h:mayC c=true):∀x∈c.t.ns,x.v.length≤1000000:=fun x hx=>by
 obtain⟨_,_,_,hm,_⟩:=YkM.1 h
 obtain⟨_,_,_,ho,_⟩:=ZaX.1 hm
 obtain⟨i,hi,rfl⟩:=List.getElem_of_mem hx
 have h1:=ho i hi
 cases hl:(c.t.ns[i]).leaf with
 |true=>
  have:=(Zgu h1 hl).1
  unfold valB at this
  have:=of_decide_eq_true this
  omega
 |false=>
  rw[(Ze0 h1 hl).2.2.2.2.2.2]
  exact Nat.zero_le _
def cutE(c:Ch)(h:Int):Int:=if mayC c=true then (if 0≤h∧h<(c.ls.length:Int) then 0 else 2) else 8
def cutR(c:Ch)(h:Int):Ch:=if mayC c=true∧0≤h∧h<(c.ls.length:Int) then cutC c h.toNat else zCh
theorem Yl7(F:Nat→Prop)(c:Ch)(s:ChS)(h:Int)(w:World)(hi:ChIn F w c s)(hb:ChB 1000000 c)(hT:Tab w):
  Calls Tryz.prog 10 #[.agg (chV c s).toArray,.int .i64 h] w fun e w'=>∃s',e=.returned (.tuple #[.agg (chV (cutR c h) s').toArray,.int .i64 (cutE c h)])∧ChOwn w' w.heap.size (cutR c h) s'∧Below w.heap.size w w':=by
 have huc:=Tryz.underlying27
 obtain⟨Y0,Z0,W0⟩:=Ymq w (chV c s) 27 27
 have G0:=hid (show ((w.alloc (.cells (chV c s).toArray 27)).alloc (.cells zChC 27)).heap[w.heap.size]? =some (.cells (chV c s).toArray 27 (0,0)) from ((Zad _ _).block _ (by rw[Vx2];omega)).trans (Vx0 w _))
 have hiC:=hid (YkJ c s)
 have I0:=hid ((hi.mono (G:=fun b=>b<w.heap.size) fun b _ h=>h).bel W0)
 have T0:=hid (hT.bel W0 hT.low)
 have hCk:=hid (fun W h1 h2=>YkQ (fun b=>b<w.heap.size) c s W h1 hb h2)
 have hHh:=hid (fun W=>YkX s.A c.t.ns.length s.k c.t.root s.L c.ls.length s.m h W)
 obtain⟨q,hq⟩:∃v,mayC c=v:=⟨_,rfl⟩
 obtain⟨p,hp⟩:∃v,(decide (0≤h)&&decide (h<(c.ls.length:Int)))=v:=⟨_,rfl⟩
 obtain⟨cc,hcc⟩:∃v,cutR c h=v:=⟨_,rfl⟩
 obtain⟨z,hz⟩:∃v,cutE c h=v:=⟨_,rfl⟩
 rw[hcc,hz]
 unfold cutR at hcc
 unfold cutE at hz
 have hN:Hid (q=false→zCh=cc∧(8:Int)=z):=hid fun e=>by
  rw[← hcc,←hz,hq,e]
  exact⟨rfl,rfl⟩
 have hA:Hid (q=true→p=false→zCh=cc∧(2:Int)=z):=hid fun e e2=>by
  have:¬(0≤h∧h<(c.ls.length:Int)):=fun ⟨h1,h2⟩=>by rw[← hp,Vy2 h1,Vy2 h2]at e2;cases e2
  rw[← hcc,←hz,hq,e,if_neg (fun h=>this h.2),if_pos rfl,if_neg this]
  exact⟨rfl,rfl⟩
 have hO:Hid (q=true→p=true→∃k:Nat,h=(k:Int)∧k<c.ls.length∧cutC c k=cc∧(0:Int)=z):=hid fun e e2=>by
  rw[← hp,Bool.and_eq_true,decide_eq_true_eq,decide_eq_true_eq]at e2
  refine⟨h.toNat,by omega,by omega,?_,?_⟩
  ·rw[← hcc,hq,e,if_pos ⟨rfl,e2⟩]
  ·rw[← hz,hq,e,if_pos rfl,if_pos e2]
 have hvv:=hid (fun e:q=true=>Ymx (hq.trans e))
 rw[hq]at hCk
 rw[hp]at hHh
 replace W0:=hid W0
 replace Z0:=hid Z0
 have zb:=hid Ylf
 have zo:=hid (YkR zCh zChS)
 have zs:=hid (YkJ zCh zChS)
 have y0:=hid Y0
 clear hT hq hp hcc hz hi Y0
 go_enter Tryz.func10,Tryz.ntmps10
 go_wp2_with (first
  |(with_reducible refine Zac rfl 27 rfl zChC YkN ?_)
  |(with_reducible refine lDr y0.out hiC.out huc ?_))
 try simp only[Vx2]
 generalize (w.alloc (.cells (chV c s).toArray 27)).alloc (.cells zChC 27)=w0 at *
 refine(hCk.out _ I0.out T0.out).mono ?_
 rintro e w1 ⟨rfl,hB⟩
 have I1:=hid (I0.out.bel hB)
 have Z1:=hid ((hB.block _ (block_lt Z0.out)).trans Z0.out)
 have G1:=hid ((hB.block _ (block_lt G0.out)).trans G0.out)
 have y1:=hid (Zae G1.out)
 have W1:=hid (W0.out.trans (hB.mono W0.out.size))
 clear hB hCk Z0 G0 I0 W0 T0 y0
 cases q with
 |false=>
  obtain⟨e1,e2⟩:=hN.out (by first|trivial|rfl)
  replace e1:=hid e1
  replace e2:=hid e2
  go_wp2_with (first
   |((with_reducible refine Zaf rfl 27 _ rfl zChC [] ?_ ?_ ?_);exact zb.out;rfl)
   |((with_reducible refine stW 4 11 (w.heap.size+1) 27 zChC ?_ ?_ ?_ ?_ ?_);exact Z1.out;exact zs.out;rfl;exact zo.out;intro w2 hgS hbS hsS))
  exact Vy0 (YkK Tryz.results10 _ _ (w.heap.size+1) (chV zCh zChS) rfl (Zae hgS) huc rfl zs.out) rfl ⟨zChS,by rw[← e1.out,←e2.out];rfl,e1.out▸ChOwn.nil _ _,W1.out.grown hbS W1.out.size (fun g e=>by injection e with e;omega)⟩
 |true=>
  go_wp2_with ((with_reducible refine lDr y1.out hiC.out huc ?_))
  refine(hHh.out _).mono ?_
  rintro e w2 ⟨rfl,hB⟩
  have I2:=hid (I1.out.bel hB)
  have Z2:=hid ((hB.block _ (block_lt Z1.out)).trans Z1.out)
  have G2:=hid ((hB.block _ (block_lt G1.out)).trans G1.out)
  have W2:=hid (W1.out.trans (hB.mono W1.out.size))
  clear hB hHh Z1 G1 I1 W1 y1 hN
  cases p with
  |false=>
   obtain⟨e1,e2⟩:=hA.out (by first|trivial|rfl) (by first|trivial|rfl)
   replace e1:=hid e1
   replace e2:=hid e2
   go_wp2_with (first
    |((with_reducible refine Zaf rfl 27 _ rfl zChC [] ?_ ?_ ?_);exact zb.out;rfl)
    |((with_reducible refine stW 4 17 (w.heap.size+1) 27 zChC ?_ ?_ ?_ ?_ ?_);exact Z2.out;exact zs.out;rfl;exact zo.out;intro w3 hgS hbS hsS))
   exact Vy0 (YkK Tryz.results10 _ _ (w.heap.size+1) (chV zCh zChS) rfl (Zae hgS) huc rfl zs.out) rfl ⟨zChS,by rw[← e1.out,←e2.out];rfl,e1.out▸ChOwn.nil _ _,W2.out.grown hbS W2.out.size (fun g e=>by injection e with e;omega)⟩
  |true=>
   obtain⟨k,rfl,hk,e1,e2⟩:=hO.out (by first|trivial|rfl) (by first|trivial|rfl)
   have hvl:=hid (hvv.out (by first|trivial|rfl))
   have lt9:=hb.ls
   have hw:IntKind.i64.wrap ((k:Int)+1)=((k+1:Nat):Int):=by rw[IntKind.wrap_i64];omega
   have hcp:=I2.out.lc
   obtain⟨b,o,hL,s9,lk9,ok9⟩:=YkS I2.out.ls hk
   obtain⟨A,k',L,m⟩:=s
   dsimp only at hL hcp
   subst hL
   have hct:=hid (Zcl Ylo (some ⟨b,o,none⟩) c.ls.length m (k+1) (by omega))
   have hLa:=hid (fun W=>YkT A c.t.ns.length k' c.t.root b o (k+1) m (by omega) (by omega) W)
   rw[Nat.add_sub_cancel]at hLa
   have ls9:=hid lk9
   have hbw:b<w.heap.size:=by
    obtain⟨b1,o1,e,hF,_,_⟩:=I2.out.ls (by omega)
    injection e with e
    injection e with e
    subst e
    exact hF
   have l2:=(Zae G2.out) 2 _ rfl
   have si1:=hid (show (Tryz.prog.info? 25).map (·.size)=some 1 by kernel_rfl)
   have si2:=hid (show (Tryz.prog.info? 3).map (·.size)=some 1 by kernel_rfl)
   have hs3:=hid (show ((chV c ⟨A,k',some ⟨b,o,none⟩,m⟩).toArray.setIfInBounds 2 (.slice (some ⟨b,o,none⟩) (k+1) m))=([.slice A c.t.ns.length k',.int .i64 c.t.root,.slice (some ⟨b,o,none⟩) (k+1) m]:List Value).toArray from rfl)
   have iV:=hid (fun r:Int=>show (Tryz.prog.info? 27).map (·.size)=some ([.slice A c.t.ns.length k',.int .i64 r,.slice (some ⟨b,o,none⟩) (k+1) m]:List Value).length from Yk5)
   have hks:=hid hk
   have sz2:=hid (show 2<(chV c ⟨A,k',some ⟨b,o,none⟩,m⟩).toArray.size by show 2<3;decide)
   replace e1:=hid e1
   replace e2:=hid e2
   have hwr:=hid hw
   clear lk9 ok9 hcp hA hO hvv
   go_wp2_with (first
    |((refine YfD rfl 25 (.tmp 19) none (some (.tmp 21)) none rfl (.slice (some ⟨b,o,none⟩) c.ls.length m) none (some (.int .i64 ((k+1:Nat):Int))) none _ hct.out rfl rfl rfl rfl ?_))
    |((refine Za8 rfl 25 (.tmp 23) (.tmp 22) rfl w.heap.size 2 (.slice (some ⟨b,o,none⟩) (k+1) m) _ _ rfl rfl rfl rfl G2.out sz2.out si1.out ?_);intro w3 hg3 hC3;have G3:=hid hg3;have C3:=hid hC3;have y3:=hid (Zae (l:=[.slice A c.t.ns.length k',.int .i64 c.t.root,.slice (some ⟨b,o,none⟩) (k+1) m]) hg3);clear hg3 hC3)
    |(with_reducible refine lDr y3.out (iV.out _) huc ?_))
   refine(hLa.out _).mono ?_
   rintro e w4 ⟨rfl,hB⟩
   have W3:=hid (W2.out.trans (C3.out.below (B:=w.heap.size) W2.out.size (fun x hx e=>by have e':x=w.heap.size:=e;omega)))
   have I3:=hid (I2.out.chg C3.out (fun x hx _ e=>by have e':x=w.heap.size:=e;have hx':x<w.heap.size:=hx;omega))
   have l3:=hid (LkAt.of (Zak ls9.out.all (fun hb=>C3.out.block _ hb (fun e=>by have e':b=w.heap.size:=e;omega))))
   have Z3:=hid ((C3.out.block _ (block_lt Z2.out) (fun e=>by have e':w.heap.size+1=w.heap.size:=e;omega)).trans Z2.out)
   have W4:=hid (W3.out.trans (hB.mono W3.out.size))
   have I4:=hid (I3.out.bel hB)
   have r4:=(l3.out.bel hB).root
   have Z4:=hid ((hB.block _ (block_lt Z3.out)).trans Z3.out)
   have G4:=hid ((hB.block _ (block_lt G3.out)).trans G3.out)
   clear W2 I2 ls9 Z2 G2 C3 W3 I3 l3 Z3 G3 hB y3 hLa l2
   have hcut:=YkV hk
   generalize hxk:c.ls[k]=xk at *
   have cI:=hid (fun W (h:ChIn (fun b=>b<w.heap.size) W c ⟨A,k',some ⟨b,o,none⟩,m⟩)=>YlL (fun b=>b<w.heap.size) (cutC c k) ⟨A,k',some ⟨b,o,none⟩,m⟩ W (h.cut hks.out) (hb.cut hks.out) (by rw[hcut];exact hvl.out))
   have hV5:=hid (show ([.slice A c.t.ns.length k',.int .i64 xk.root,.slice (some ⟨b,o,none⟩) (k+1) m]:List Value)=chV (cutC c k) ⟨A,k',some ⟨b,o,none⟩,m⟩ by rw[hcut];unfold chV;simp only[List.length_take];rw[Nat.min_eq_left hks.out])
   have sz3:=hid (show 1<([.slice A c.t.ns.length k',.int .i64 c.t.root,.slice (some ⟨b,o,none⟩) (k+1) m]:List Value).toArray.size by show 1<3;decide)
   clear hcut hxk hct hwr hw lt9
   go_wp2_with (first
    |((refine Za8 rfl 3 (.tmp 30) (.tmp 28) rfl w.heap.size 1 (.int .i64 xk.root) _ _ rfl rfl rfl rfl G4.out sz3.out si2.out ?_);intro w5 hg5 hC5;have G5:=hid hg5;have C5:=hid hC5;have y5:=hid (Zae (l:=[.slice A c.t.ns.length k',.int .i64 xk.root,.slice (some ⟨b,o,none⟩) (k+1) m]) hg5);clear hg5 hC5)
    |(with_reducible refine lDr y5.out (iV.out _) huc ?_))
   have W5:=hid (W4.out.trans (C5.out.below (B:=w.heap.size) W4.out.size (fun x hx e=>by have e':x=w.heap.size:=e;omega)))
   have I5:=I4.out.chg C5.out (fun x hx _ e=>by have e':x=w.heap.size:=e;have hx':x<w.heap.size:=hx;omega)
   have Z5:=hid ((C5.out.block _ (block_lt Z4.out) (fun e=>by have e':w.heap.size+1=w.heap.size:=e;omega)).trans Z4.out)
   have lt5:=hid (block_lt Z5.out)
   have hT5:=cI.out w5 I5
   rw[← hV5.out]at hT5
   refine hT5.mono ?_
   rintro e w6 ⟨s6,rfl,o6,hB6⟩
   have Z6:=hid ((hB6.block _ lt5.out).trans Z5.out)
   have W6:=hid (W5.out.trans (hB6.mono W5.out.size))
   have O6:=hid o6
   have os:=hid (YkR (cutC c k) s6)
   have ss:=hid (YkJ (cutC c k) s6)
   clear o6 hB6 Z5 W5 I5 C5 y5 G5 r4 cI hT5 hV5 Z4 G4 I4 W4
   go_wp2_with (((with_reducible refine stW 4 32 (w.heap.size+1) 27 zChC ?_ ?_ ?_ ?_ ?_);exact Z6.out;exact ss.out;rfl;exact os.out;intro w7 hgS hbS hsS))
   have O7:=O6.out.kept (g:=w.heap.size+1) (fun b hl hne=>hbS.block b hl (fun e=>hne (by injection e))) lt5.out
   exact Vy0 (YkK Tryz.results10 _ _ (w.heap.size+1) (chV (cutC c k) s6) rfl (Zae hgS) huc rfl ss.out) rfl ⟨s6,by rw[← e1.out,←e2.out];rfl,e1.out▸O7.base (by have:=lt5.out;omega),W6.out.grown hbS W6.out.size (fun g e=>by injection e with e;omega)⟩
end Go.Proofs.YtnnclggeifnomaaGreatDoor
