import Derived.Test.YtimaoonpgilekaaDoorStX
import Derived.Test.YtimaoonpgilekaaDoorInW
set_option linter.all false
set_option maxHeartbeats 1000000
namespace Go.Proofs.YtimaoonpgilekaaDoor
open Go.RowKit
set_option maxRecDepth 100000
theorem Yoa{F:Nat→Prop}{w:World}{D:Option Addr}{xs:List Tx}(h:Row F w D xs){j:Nat}(hj:j<xs.length):∃b o,D=some ⟨b,o,none⟩∧w.rangeAt b (o+j * 99) (txC xs[j])∧xs[j].ok:=by
 obtain⟨b,o,rfl,-,-,hc⟩:=h (by omega)
 obtain⟨vs,hv,hcell⟩:=hc j xs[j] (Vx9 hj)
 obtain⟨rfl,hok⟩:=ZlF hv
 exact⟨b,o,rfl,hcell,hok⟩
theorem YoS{F:Nat→Prop}{w:World}(x:Tx)(h:x.ok):Enc.rep F w x (txC x):=
 ⟨x.p.1.map bv,x.t.1.map bv++([.int .u64 (x.n:Int)]++([.int .u64 (x.a:Int)]++([.int .u64 (x.f:Int)]++x.s.1.map bv))),by simp[txC,txS],rfl,x.t.1.map bv,[.int .u64 (x.n:Int)]++([.int .u64 (x.a:Int)]++([.int .u64 (x.f:Int)]++x.s.1.map bv)),rfl,rfl,[.int .u64 (x.n:Int)],[.int .u64 (x.a:Int)]++([.int .u64 (x.f:Int)]++x.s.1.map bv),rfl,⟨rfl,h.1⟩,[.int .u64 (x.a:Int)],[.int .u64 (x.f:Int)]++x.s.1.map bv,rfl,⟨rfl,h.2.1⟩,[.int .u64 (x.f:Int)],x.s.1.map bv,rfl,⟨rfl,h.2.2⟩,rfl⟩
theorem slotTxQ:Slot Tryd.prog Tx 24 33 (.agg zTxC) 120 where
 under:=Tryd.underlying24
 info:=by kernel_rfl
 zero:=by decide +kernel
 pos:=by decide
theorem YoW{F G:Nat→Prop}{w:World}{A:Option Addr}{xs:List Tx}(h:Row F w A xs):Src G w A xs:=fun hn=>by
 obtain⟨b,o,hA,-,-,hc⟩:=h hn
 exact⟨b,o,hA,fun j x hx=>by obtain⟨vs,h1,h2⟩:=hc j x hx;exact⟨vs,h1,h2⟩⟩
theorem Yon:Opens Tryd.prog 24 (List Tx):=Opens.slice Tryd.underlying24 (by kernel_rfl) opensTx
theorem Yn1{α:Type}{ps qs:List α}{j:Nat}(h1:j<ps.length)(h2:j<qs.length)(h:ps.take j=qs.take j):ps.take (j+1)=qs.take (j+1)↔ps[j]=qs[j]:=by
 rw[Vy5 h1,Vy5 h2,h]
 exact⟨fun e=>by have:=List.append_cancel_left e;simpa using this,fun e=>by rw[e]⟩
theorem Yoo{a b:Bool}(h:a=b):Ending.returned (.bool a)=.returned (.bool b):=by rw[h]
theorem OwnR.emptyQ{α:Type}[Enc α](E:TypeId)(w:World):OwnR E (w.alloc (.cells #[] E)) w.heap.size (some ⟨w.heap.size,0,none⟩) 0 ([]:List α):=
 ⟨fun _=>False,⟨[],rfl,⟨by simp,.inr ⟨w.heap.size,0,#[],rfl,Vx8 _,Vx0 w _,Vx8 _,Nat.zero_le _,by simp,by simp⟩⟩,fun j x vs h=>by simp at h,fun _ _ h=>h⟩,fun b h=>h.elim⟩
theorem YoC(F G:Nat→Prop)(A D:Option Addr)(c d:Nat)(ps qs:List Tx)(w:World)(hr:Row F w A ps)(hs:Row G w D qs)(hc:ps.length≤9223372036854775807)(hd:qs.length≤9223372036854775807):
  Calls Tryd.prog 43 #[.slice A ps.length c,.slice D qs.length d] w fun e w'=>e=.returned (.bool (decide (ps=qs)))∧Below w.heap.size w w':=by
 obtain⟨ans,ha⟩:∃ans,decide (ps=qs)=ans:=⟨_,rfl⟩
 rw[ha]
 replace ha:=hid ha
 by_cases hl:ps.length=qs.length
 ·have hl2:=hid hl
  rw[← hl]at hd ⊢
  replace hl:=hl2
  clear hl2
  go_enter Tryd.func43,Tryd.ntmps43
  go_wp2
  go_loopw [13] (fun i wr=>∃j:Nat,j≤ps.length∧i=.int .i64 j∧ps.take j=qs.take j∧Below w.heap.size w wr) (fun i _=>ps.length-(intOf i).toNat)
  case atStart=>exact⟨0,Nat.zero_le _,rfl,by simp,Below.refl _ _⟩
  case round=>
   obtain⟨j,hj,rfl,hrel,hb⟩:=hrel
   by_cases hlt:j<ps.length
   ·have hlt2:j<qs.length:=by rw[← hl.out];exact hlt
    have E:=hid (Yn1 hlt hlt2 hrel)
    replace hrel:=hid hrel
    have hu:=Tryd.underlying33
    obtain⟨b,o,hA,r1,m1⟩:=Yoa hr hlt
    obtain⟨b',o',hD,r2,m2⟩:=Yoa hs hlt2
    subst hA hD
    obtain⟨eb,heb⟩:∃eb,decide (ps[j]=qs[j])=eb:=⟨_,rfl⟩
    have hE:∀W,(Op.equalIn 10000 33 (.agg (txC ps[j]).toArray) (.agg (txC qs[j]).toArray)).run Tryd.prog W=.ok eb W:=fun W=>Zfm ps[j] qs[j] m1 m2 eb heb W
    have hno:eb=false→false=ans:=by
     intro h
     rw[← ha.out]
     refine(Vy1 fun e=>?_).symm
     have:=E.out.1 (by rw[e])
     rw[h]at heb;simp[this]at heb
    have hyes:eb=true→ps.take (j+1)=qs.take (j+1):=fun h1=>E.out.2 (by simpa [h1] using heb)
    have hi1:=hid (Zby ps[j])
    have hi2:=hid (Zby qs[j])
    clear heb E m1 m2
    generalize txC ps[j]=d1 at *
    generalize txC qs[j]=d2 at *
    have q1:=hid r1
    have q2:=hid r2
    clear hlt2 r1 r2
    cases eb
    ·replace hno:=hid (hno rfl)
     clear hyes
     go_wp2
     refine rgB fun hHeld=>?_
     refine' tkW 0 1 ?_
     refine' tkP 2 rfl ?_
     refine' tkM 3 rfl (fun _ h=>Zab h (Zab hb q1.out)) hu hi1.out ?_
     simp only[sQ]
     refine' tkW 4 5 ?_
     refine' tkP 6 rfl ?_
     refine' tkM 7 rfl (fun _ h=>Zab h (Zab hb q2.out)) hu hi2.out ?_
     simp only[sQ]
     refine' tkP 8 rfl ?_
     simp only[sQ]
     refine dnN ?_
     go_wp2
     go_ret
     exact⟨Yoo hno.out,hb.trans (hHeld.mono hb.size)⟩
    ·replace hyes:=hid (hyes rfl)
     clear hno
     go_wp2
     refine rgB fun hHeld=>?_
     refine' tkW 0 1 ?_
     refine' tkP 2 rfl ?_
     refine' tkM 3 rfl (fun _ h=>Zab h (Zab hb q1.out)) hu hi1.out ?_
     simp only[sQ]
     refine' tkW 4 5 ?_
     refine' tkP 6 rfl ?_
     refine' tkM 7 rfl (fun _ h=>Zab h (Zab hb q2.out)) hu hi2.out ?_
     simp only[sQ]
     refine' tkP 8 rfl ?_
     simp only[sQ]
     refine dnN ?_
     go_wp2
     go_roundw
     case rel=>exact⟨j+1,by omega,by go_num,hyes.out,hb.trans (hHeld.mono hb.size)⟩
     case measure=>simp[intOf];omega
   ·obtain rfl:j=ps.length:=by omega
    have e1:true=ans:=by
     rw[← ha.out]
     refine(Vy2 ?_).symm
     rw[List.take_length]at hrel
     rw[hrel,hl.out,List.take_length]
    replace e1:=hid e1
    replace hrel:=trivial
    go_wp2
    go_ret
    exact⟨Yoo e1.out,hb⟩
 ·have e1:false=ans:=by rw[← ha.out];exact(Vy1 fun e=>hl (by rw[e])).symm
  have hne:((ps.length:Int) !=(qs.length:Int))=true:=bne_iff_ne.2 (by omega)
  go_enter Tryd.func43,Tryd.ntmps43
  go_wp2
  go_ret
  exact⟨Yoo e1,Below.refl _ _⟩
theorem Yos{F G:Nat→Prop}{w:World}{A:Option Addr}{xs:List Tx}(h:Src F w A xs):Src G w A xs:=fun hn=>by
 obtain⟨b,o,hA,hc⟩:=h hn
 exact⟨b,o,hA,fun j x hx=>by obtain⟨vs,h1,h2⟩:=hc j x hx;exact⟨vs,h1,h2⟩⟩
theorem Yow(F:Nat→Prop)(A:Option Addr)(c:Nat)(ps:List Tx)(w:World)(hr:Row F w A ps)(hc:ps.length≤1000000):
  Calls Tryd.prog 31 #[.slice A ps.length c] w fun e w'=>∃A' c',e=.returned (.slice A' ps.length c')∧OwnR 33 w' w.heap.size A' c' ps∧Below w.heap.size w w':=by
 have hus:=Tryd.underlying24
 have q22:∀(w:World) (a:Option Addr) (n c n' c':Nat),(binOp .eql 24 (.slice a n c) (.slice none n' c')).run Tryd.prog w=.ok (.bool a.isNone) w:=fun w a n c n' c'=>Lib.run_eql_slice_nil w _ _ a n c n' c' hus
 rcases A with _|a
 ·have h0:ps=[]:=by
   rcases Nat.eq_zero_or_pos ps.length with h0|h0
   ·exact List.eq_nil_of_length_eq_zero h0
   ·obtain⟨b,o,hA,_⟩:=hr h0
    cases hA
  subst h0
  clear hr hc
  go_enter Tryd.func31,Tryd.ntmps31
  go_wp2
  go_ret
  exact⟨none,0,rfl,OwnR.nil _ _,Below.refl _ _⟩
 ·have W0:=Zad w (.cells #[] 33)
  have hs:=hid (Yos (G:=fun _=>False) (hr.bel W0).src)
  have ho:=hid (OwnR.emptyQ (α:=Tx) 33 w)
  have hz:=hid (show w.heap.size≤(w.alloc (.cells #[] 33)).heap.size by simp)
  generalize hl:ps.length=n at *
  replace hl:=hid hl
  go_enter Tryd.func31,Tryd.ntmps31
  go_wp2_with (first
   |((with_reducible refine Za0 slotTxQ rfl rfl ?_))
   |(at_builtin;refine ZbG slotTxQ rfl (.tmp 5) (.tmp 6) rfl w.heap.size w.heap.size (some ⟨w.heap.size,0,none⟩) (some a) 0 n 0 c [] ps (fun _=>False) rfl rfl rfl hl.out.symm ho.out hs.out (fun b hb=>hb.elim) (by have:=hl.out;simp;omega) hz.out ?_;intro A7 c7 w9 ho9 hb9;rw[List.nil_append]at ho9 ⊢;have own9:=hid ho9;have W9:=hid ((W0.trans (hb9.mono (Vx8 _))));clear ho9 hb9))
  go_ret
  exact⟨A7,c7,by rw[← hl.out];rfl,own9.out,W9.out⟩
end Go.Proofs.YtimaoonpgilekaaDoor
