import Derived.Test.YtimaoonpgilekaaDoorStX
import Derived.Test.YtimaoonpgilekaaDoorInW
set_option linter.all false
namespace Go.Proofs.YtimaoonpgilekaaDoor
open Go.RowKit
set_option maxRecDepth 100000
theorem Yoa{F:Nat→Prop}{w:World}{D:Option Addr}{xs:List Tx}(h:Row F w D xs){j:Nat}(hj:j<xs.length):∃b o,D=some ⟨b,o,none⟩∧w.rangeAt b (o+j * 99) (txC xs[j])∧xs[j].ok:=by
 obtain⟨b,o,rfl,-,-,hc⟩:=h (by omega)
 obtain⟨vs,hv,hcell⟩:=hc j xs[j] (Vx9 hj)
 obtain⟨rfl,hok⟩:=ZlF hv
 exact⟨b,o,rfl,hcell,hok⟩
theorem YoS{F:Nat→Prop}{w:World}(x:Tx)(h:x.ok):Enc.rep F w x (txC x):=
 ⟨x.p.1.map bv,x.t.1.map bv++([.int .u64 (x.n:Int)]++([.int .u64 (x.a:Int)]++([.int .u64 (x.f:Int)]++x.s.1.map bv))),by simp[txC,txS],rfl,x.t.1.map bv,[.int .u64 (x.n:Int)]++([.int .u64 (x.a:Int)]++([.int .u64 (x.f:Int)]++x.s.1.map bv)),rfl,rfl,[.int .u64 (x.n:Int)],[.int .u64 (x.a:Int)]++([.int .u64 (x.f:Int)]++x.s.1.map bv),rfl,⟨rfl,h.1⟩,[.int .u64 (x.a:Int)],[.int .u64 (x.f:Int)]++x.s.1.map bv,rfl,⟨rfl,h.2.1⟩,[.int .u64 (x.f:Int)],x.s.1.map bv,rfl,⟨rfl,h.2.2⟩,rfl⟩
theorem slotTxQ:Slot Tryd.prog Tx 24 33 (.agg zTxC) 120 where
 under:=Tryd.underlying24
 info:=by kernel_rfl
 zero:=by decide +kernel
 pos:=by decide
theorem YoW{F G:Nat→Prop}{w:World}{A:Option Addr}{xs:List Tx}(h:Row F w A xs):Src G w A xs:=fun hn=>by
 obtain⟨b,o,hA,-,-,hc⟩:=h hn
 exact⟨b,o,hA,fun j x hx=>by obtain⟨vs,h1,h2⟩:=hc j x hx;exact⟨vs,h1,h2⟩⟩
theorem Yon:Opens Tryd.prog 24 (List Tx):=Opens.slice Tryd.underlying24 (by kernel_rfl) opensTx
theorem Yn1{α:Type}{ps qs:List α}{j:Nat}(h1:j<ps.length)(h2:j<qs.length)(h:ps.take j=qs.take j):ps.take (j+1)=qs.take (j+1)↔ps[j]=qs[j]:=by
 rw[Vy5 h1,Vy5 h2,h]
 exact⟨fun e=>by have:=List.append_cancel_left e;simpa using this,fun e=>by rw[e]⟩
theorem Yoo{a b:Bool}(h:a=b):Ending.returned (.bool a)=.returned (.bool b):=by rw[h]
theorem OwnR.emptyQ{α:Type}[Enc α](E:TypeId)(w:World):OwnR E (w.alloc (.cells #[] E)) w.heap.size (some ⟨w.heap.size,0,none⟩) 0 ([]:List α):=
 ⟨fun _=>False,⟨[],rfl,⟨by simp,.inr ⟨w.heap.size,0,#[],rfl,Vx8 _,Vx0 w _,Vx8 _,Nat.zero_le _,by simp,by simp⟩⟩,fun j x vs h=>by simp at h,fun _ _ h=>h⟩,fun b h=>h.elim⟩
theorem Yos{F G:Nat→Prop}{w:World}{A:Option Addr}{xs:List Tx}(h:Src F w A xs):Src G w A xs:=fun hn=>by
 obtain⟨b,o,hA,hc⟩:=h hn
 exact⟨b,o,hA,fun j x hx=>by obtain⟨vs,h1,h2⟩:=hc j x hx;exact⟨vs,h1,h2⟩⟩
set_option maxHeartbeats 1000000 in
theorem Yow(F:Nat→Prop)(A:Option Addr)(c:Nat)(ps:List Tx)(w:World)(hr:Row F w A ps)(hc:ps.length≤1000000):
  Calls Tryd.prog 31 #[.slice A ps.length c] w fun e w'=>∃A' c',e=.returned (.slice A' ps.length c')∧OwnR 33 w' w.heap.size A' c' ps∧Below w.heap.size w w':=by
 have hus:=Tryd.underlying24
 have q22:∀(w:World) (a:Option Addr) (n c n' c':Nat),(binOp .eql 24 (.slice a n c) (.slice none n' c')).run Tryd.prog w=.ok (.bool a.isNone) w:=fun w a n c n' c'=>Lib.run_eql_slice_nil w _ _ a n c n' c' hus
 rcases A with _|a
 ·have h0:ps=[]:=by
   rcases Nat.eq_zero_or_pos ps.length with h0|h0
   ·exact List.eq_nil_of_length_eq_zero h0
   ·obtain⟨b,o,hA,_⟩:=hr h0
    cases hA
  subst h0
  clear hr hc
  go_enter Tryd.func31,Tryd.ntmps31
  go_wp2
  go_ret
  exact⟨none,0,rfl,OwnR.nil _ _,Below.refl _ _⟩
 ·have W0:=Zad w (.cells #[] 33)
  have hs:=hid (Yos (G:=fun _=>False) (hr.bel W0).src)
  have ho:=hid (OwnR.emptyQ (α:=Tx) 33 w)
  have hz:=hid (show w.heap.size≤(w.alloc (.cells #[] 33)).heap.size by simp)
  generalize hl:ps.length=n at *
  replace hl:=hid hl
  go_enter Tryd.func31,Tryd.ntmps31
  go_wp2_with (first
   |((with_reducible refine Za0 slotTxQ rfl rfl ?_))
   |(at_builtin;refine ZbG slotTxQ rfl (.tmp 5) (.tmp 6) rfl w.heap.size w.heap.size (some ⟨w.heap.size,0,none⟩) (some a) 0 n 0 c [] ps (fun _=>False) rfl rfl rfl hl.out.symm ho.out hs.out (fun b hb=>hb.elim) (by have:=hl.out;simp;omega) hz.out ?_;intro A7 c7 w9 ho9 hb9;rw[List.nil_append]at ho9 ⊢;have own9:=hid ho9;have W9:=hid ((W0.trans (hb9.mono (Vx8 _))));clear ho9 hb9))
  go_ret
  exact⟨A7,c7,by rw[← hl.out];rfl,own9.out,W9.out⟩
end Go.Proofs.YtimaoonpgilekaaDoor
