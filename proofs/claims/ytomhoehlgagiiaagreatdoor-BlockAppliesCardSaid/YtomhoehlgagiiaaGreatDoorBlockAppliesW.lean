import Derived.ProofKit
import Derived.ShutString
import Derived.ChangeOld
import Derived.Below
import Derived.Test.YtomhoehlgagiiaaGreatDoorTwn
import Derived.Test.YtomhoehlgagiiaaGreatDoorRfZ
set_option linter.all false
namespace Go.Proofs.YtomhoehlgagiiaaGreatDoor.blockApplies
open Go.ChangeShapes Go.WideShapes Go.ChangeAt Go.RowKit
open Go.ChangeMaps (open_string shut_string)
theorem own:ownKnob Tryz.prog.godebug=none:=by kernel_rfl
theorem laidOut:laidOutB Tryz.prog=true:=by kernel_rfl
def IsRow(k:IntKind)(w:World)(a:Option Addr)(len cap:Nat)(zs:List Int):Prop:=
 (a=none∧len=0∧cap=0∧zs=[])∨
 ∃x,a=some x∧len≤cap∧cap≤maxLen∧zs.length=cap∧(∀ i,i<zs.length→w.cell? (x.add i)=some (.int k (zs.getD i 0)))∧∀n∈zs,(Lit.int k n).wf=true
open Go.Proofs.YtomhoehlgagiiaaGreatDoor
theorem Zf0(w:World)(A:Option Addr)(n c:Nat)(root:Int)(l m q:List Value)(t u v y:TypeId):
  BoxT ((((w.alloc (.cells #[.slice A n c,.int .i64 root] t)).alloc (.cells l.toArray u)).alloc (.cells m.toArray v)).alloc (.cells q.toArray y)) w.heap.size A n c root∧
  ((((w.alloc (.cells #[.slice A n c,.int .i64 root] t)).alloc (.cells l.toArray u)).alloc (.cells m.toArray v)).alloc (.cells q.toArray y)).rangeAt (w.heap.size+1) 0 l∧
  ((((w.alloc (.cells #[.slice A n c,.int .i64 root] t)).alloc (.cells l.toArray u)).alloc (.cells m.toArray v)).alloc (.cells q.toArray y)).rangeAt (w.heap.size+1+1) 0 m∧
  ((((w.alloc (.cells #[.slice A n c,.int .i64 root] t)).alloc (.cells l.toArray u)).alloc (.cells m.toArray v)).alloc (.cells q.toArray y)).rangeAt (w.heap.size+1+1+1) 0 q∧
  Below w.heap.size w ((((w.alloc (.cells #[.slice A n c,.int .i64 root] t)).alloc (.cells l.toArray u)).alloc (.cells m.toArray v)).alloc (.cells q.toArray y)):=by
 have h1:=BoxT.new w A n c root t
 have b1:=Zad w (.cells #[.slice A n c,.int .i64 root] t)
 have h2:=Zae (Vx0 (w.alloc (.cells #[.slice A n c,.int .i64 root] t)) (.cells l.toArray u))
 have h3:=Zae (Vx0 ((w.alloc (.cells #[.slice A n c,.int .i64 root] t)).alloc (.cells l.toArray u)) (.cells m.toArray v))
 have h4:=Zae (Vx0 (((w.alloc (.cells #[.slice A n c,.int .i64 root] t)).alloc (.cells l.toArray u)).alloc (.cells m.toArray v)) (.cells q.toArray y))
 simp only[Vx2]at h2 h3 h4
 exact⟨((h1.bel (Zad _ _)).bel (Zad _ _)).bel (Zad _ _),Zab (Zad _ _) (Zab (Zad _ _) h2),Zab (Zad _ _) h3,h4,Zag (Zag (Zag b1 (Zad _ _)) (Zad _ _)) (Zad _ _)⟩
theorem Zet{n m:Nat}(h:greatB n m=false):n≤20∧m≤20:=by
 unfold greatB bigB at h
 simp at h
 omega
theorem Zyk{t:Tr}{x:Hd}{ds:List Dp}{xs:List Tx}{box:Dg}(hd:ds.length≤20)(he:xs.length≤20):(applyH t x ds xs box).ok∧(applyR t x ds xs box).length≤40:=by
 by_cases hz:applyE t x ds xs box=0
 ·have hl:=ZgK hz
  refine⟨?_,by omega⟩
  obtain⟨-,hmh,-,-,-,-⟩:=ZeI hz
  unfold mayH at hmh
  have hm:=of_decide_eq_true hmh
  have e:=(Zbx hz).2.2
  rw[← (Zbx hz).2.1]at e
  rw[e]
  refine⟨?_,?_⟩
  ·show -9223372036854775808≤x.h+1∧x.h+1≤9223372036854775807
   omega
  ·show -9223372036854775808≤((applyR t x ds xs box).length:Int)∧((applyR t x ds xs box).length:Int)≤9223372036854775807
   omega
 ·refine⟨?_,?_⟩
  ·unfold applyH;rw[if_neg hz];exact Zgg
  ·unfold applyR;rw[if_neg hz];simp
set_option maxRecDepth 100000 in
def BaM(w w2:World)(ns:List Nd)(root:Int)(ds:List Dp)(xs:List Tx)(a:Act)(W:World):Prop:=∃y0 y1 y2 y3 y8 y20 y21 y22 y23 y24 y25 y26 y27 y28 y29:Value,∃(g9 g10:Nat) (A2:Option Addr) (c2:Nat) (D2:Option Addr) (d2:Nat) (X2:Option Addr) (e2:Nat),a={ tmps:=(List.toArray (y0::y1::y2::y3:: .pointer (some ⟨w.heap.size,0,none⟩):: .pointer (some ⟨w.heap.size+1,0,none⟩):: .pointer (some ⟨w.heap.size+1+1,0,none⟩):: .pointer (some ⟨w.heap.size+1+1+1,0,none⟩)::y8:: .pointer (some ⟨g9,0,none⟩):: .pointer (some ⟨g10,0,none⟩)::undef::undef::undef::undef::undef::undef::undef::undef::undef::y20::y21::y22::y23::y24::y25::y26::y27::y28::y29::undef::undef::undef::undef::undef::undef::undef::undef::undef::undef::undef::undef::undef::undef::undef::undef::undef::undef::undef::undef::undef::undef::undef::undef::undef::undef::undef::undef::undef::undef::undef::undef::undef::undef::undef::undef::undef::undef::undef::undef::undef::undef::undef::undef::undef::undef::undef::undef::undef::undef::undef::undef::undef::undef::undef::undef::undef::undef::undef::undef::undef::undef::undef::undef::undef::undef::undef::undef::undef::undef::undef::undef::undef::undef::undef::undef::undef::undef::undef::undef::undef::undef::[])),defers:=[] }∧
 W.heap[g9]? =some (.cells #[.slice A2 ns.length c2,.int .i64 root] 24 (0,0))∧W.heap[g10]? =some (.cells #[.slice D2 ds.length d2,.slice X2 xs.length e2] 36 (0,0))∧Row (fun _=>True) W A2 ns∧Row (fun _=>True) W D2 ds∧Row (fun _=>True) W X2 xs∧Below w2.heap.size w2 W
set_option maxRecDepth 100000 in
set_option maxHeartbeats 16000000 in
theorem walk(x0:Tr)(vs0:List Value)(x1:Hd)(vs1:List Value)(x2:Bd)(vs2:List Value)(l3:List UInt8)(w:World)(w0:Enc.rep (fun b=>b<w.heap.size) w x0 vs0)(w1:Enc.rep (fun b=>b<w.heap.size) w x1 vs1)(w2:Enc.rep (fun b=>b<w.heap.size) w x2 vs2)(w3:l3.length=32)(hT:Tab w):
  Calls Tryz.prog 4 #[.agg vs0.toArray,.agg vs1.toArray,.agg vs2.toArray,.agg (l3.map bv).toArray] w fun e w'=>e=.returned (.bool true)∧Below w.heap.size w w':=by
 obtain⟨A0,c0,rfl,hc0,hm0,hr,hI⟩:=Zdz w0
 obtain⟨ns,root⟩:=x0
 obtain⟨rfl,hx⟩:=ZiR w1
 obtain⟨D0,d0,X0,e0,rfl,⟨hd1,hd2,hdr⟩,⟨hx1,hx2,hxr⟩⟩:=Zvg w2
 obtain⟨ds,xs⟩:=x2
 obtain⟨box,rfl⟩:∃k:Dg,l3=k.1:=⟨⟨l3,w3⟩,rfl⟩
 generalize x1=xh at *
 dsimp only at *
 have hcm:ns.length≤9223372036854775807:=by unfold maxLen at hm0;omega
 obtain⟨T0,N0,B0,S0,W0⟩:=Zf0 w A0 ns.length c0 root (hdC xh) [.slice D0 ds.length d0,.slice X0 xs.length e0] (box.1.map bv) 24 28 36 26
 have hut:=Tryz.underlying24
 have huh:=Tryz.underlying28
 have hub:=Tryz.underlying36
 have hu:=Tryz.underlying26
 have hiT:=hid (show (Tryz.prog.info? 24).map (·.size)=some ([Value.slice A0 ns.length c0,.int .i64 root]).length from Zah)
 have hiS:=hid (Zaz box)
 have jxh:=hid (Zbu xh)
 have jBd:=hid (show (Tryz.prog.info? 36).map (·.size)=some ([Value.slice D0 ds.length d0,.slice X0 xs.length e0]).length from ZfA _ _)
 have R0:=hid (hr.bel W0)
 have P0:=hid (hdr.bel W0)
 have Q0:=hid (hxr.bel W0)
 have H0:=hid (hT.bel W0 hT.low)
 have hlow:=hid hT.low
 obtain⟨gb,hgb⟩:∃gb,greatT ns 600=gb:=⟨_,rfl⟩
 have hGr:=fun W hW=>ZaY (fun b=>b<w.heap.size) A0 c0 600 ns root W hW hcm
 rw[hgb]at hGr
 replace hGr:=hid hGr
 replace hgb:=hid hgb
 obtain⟨gc,hgc⟩:∃gc,greatB ds.length xs.length=gc:=⟨_,rfl⟩
 have hGB:=hid (fun W=>hgc▸Zgi D0 d0 ds.length X0 e0 xs.length W)
 replace hgc:=hid hgc
 replace T0:=hid T0
 replace N0:=hid N0
 replace B0:=hid B0
 replace S0:=hid S0
 replace W0:=hid W0
 clear hr hdr hxr w0 w1 w2 w3 hI
 have hur:=Tryz.underlying61
 go_enter Tryz.func4,Tryz.ntmps4
 go_wp2_with ((with_reducible refine lDr T0.out.all hiT.out hut ?_))
 generalize (((w.alloc (.cells #[.slice A0 ns.length c0,.int .i64 root] 24)).alloc (.cells (hdC xh).toArray 28)).alloc (.cells #[.slice D0 ds.length d0,.slice X0 xs.length e0] 36)).alloc (.cells (box.1.map bv).toArray 26)=w0 at *
 refine(hGr.out _ R0.out).mono ?_
 rintro e w1 ⟨rfl,hb⟩
 have T1:=hid (T0.out.bel hb)
 have N1:=hid (Zab hb N0.out)
 have B1:=hid (Zab hb B0.out)
 have S1:=hid (Zab hb S0.out)
 have R1:=hid (R0.out.bel hb)
 have P1:=hid (P0.out.bel hb)
 have Q1:=hid (Q0.out.bel hb)
 have H1:=hid (H0.out.bel hb (Vx4 hlow.out W0.out.size))
 have W1:=hid (W0.out.trans (hb.mono W0.out.size))
 clear T0 N0 B0 S0 R0 P0 Q0 H0 W0
 clear hb hGr
 cases gb with
 |true=>
  go_wp2
  go_ret
  exact⟨rfl,W1.out⟩
 |false=>
  go_wp2_with ((with_reducible refine lDr B1.out jBd.out hub ?_))
  refine(hGB.out _).mono ?_
  rintro e w2 ⟨rfl,hb⟩
  have T2:=hid (T1.out.bel hb)
  have N2:=hid (Zab hb N1.out)
  have B2:=hid (Zab hb B1.out)
  have S2:=hid (Zab hb S1.out)
  have R2:=hid (R1.out.bel hb)
  have P2:=hid (P1.out.bel hb)
  have Q2:=hid (Q1.out.bel hb)
  have H2:=hid (H1.out.bel hb (Vx4 hlow.out W1.out.size))
  have W2:=hid (W1.out.trans (hb.mono W1.out.size))
  clear T1 N1 B1 S1 R1 P1 Q1 H1 W1
  clear hb hGB
  cases gc with
  |true=>
   go_wp2
   go_ret
   exact⟨rfl,W2.out⟩
  |false=>
   obtain⟨hlen,hvs⟩:=Zbi hgb.out
   obtain⟨ld,lx⟩:=Zet hgc.out
   have hvs2:∀x∈ns,x.v.length≤1000000:=fun x hx=>Vx1 (hvs x hx) (by decide)
   have hTw:=hid (fun W hW=>Zdb (fun b=>b<w.heap.size) A0 c0 ns root W hW (by omega) hvs2)
   have hTb:=hid (fun W hW hX=>Zpf (fun b=>b<w.heap.size) (fun b=>b<w.heap.size) D0 d0 ds X0 e0 xs W hW hX (by omega) (by omega))
   clear hgb hvs hgc hvs2
   go_wp2_with fail
   refine ZsN (BaM w w2 ns root ds xs) ?first ?rest
   case first=>
    have q:Twn w2.drew (fun _=>none):=Twn.nil _
    focus
     refine rgB fun hHeld=>?_
     refine' tkM 0 rfl (fun _ h=>Zab h T2.out.all) hut hiT.out ?_
     refine' tkM 2 rfl (fun _ h=>Zab h B2.out) hub jBd.out ?_
     simp only[sQ]
     refine rdH3 1 4 5 rfl rfl rfl (fun K hK=>?_) (fun K hK=>?_) (fun K hK=>?_)
     focus
      go_simp
      refine(hTw.out _ (R2.out.bel hHeld)).mono ?_
      rintro e v1 ⟨A2,c2,rfl,ho,hB⟩
      replace q:=Twn.own q 0 hB ho
      go_wp2_with fail
      refine kB hK hHeld hB fun hHeld=>?_
      clear hK K
      try simp only[sQ]
      refine rdH3 3 4 5 rfl rfl rfl (fun K hK=>?_) (fun K hK=>?_) (fun K hK=>?_)
      focus
       go_simp
       refine(hTb.out _ (P2.out.bel hHeld) (Q2.out.bel hHeld)).mono ?_
       rintro e v3 ⟨D2,d2,X2,e2,rfl,ho1,ho2,hB⟩
       replace q:=Twn.own2 q 1 hB ho1 ho2
       go_wp2_with fail
       refine kB hK hHeld hB fun hHeld=>?_
       clear hK K
       try simp only[sQ]
       refine rdH2 4 5 rfl rfl (fun K hK=>?_) (fun K hK=>?_)
       focus
        refine Zar rfl 24 rfl zTrC Zas ?_
        intro g9 v4 b9 e9 hB
        have n9:=Vx1 hHeld.size b9
        replace q:=Twn.box q 2 hB b9 e9
        refine kB hK hHeld hB fun hHeld=>?_
        clear hK K
        try simp only[sQ]
        refine rdH 5 rfl fun K hK=>?_
        refine Zar rfl 36 rfl zBodyC YbU ?_
        intro g10 v5 b10 e10 hB
        have n10:=Vx1 hHeld.size b10
        replace q:=Twn.box q 3 hB b10 e10
        refine kB hK hHeld hB fun hHeld=>?_
        clear hK K
        try simp only[sQ]
       rotate_left
       focus
        refine Zar rfl 36 rfl zBodyC YbU ?_
        intro g10 v5 b10 e10 hB
        have n10:=Vx1 hHeld.size b10
        replace q:=Twn.box q 3 hB b10 e10
        refine kB hK hHeld hB fun hHeld=>?_
        clear hK K
        try simp only[sQ]
        refine rdH 4 rfl fun K hK=>?_
        refine Zar rfl 24 rfl zTrC Zas ?_
        intro g9 v4 b9 e9 hB
        have n9:=Vx1 hHeld.size b9
        replace q:=Twn.box q 2 hB b9 e9
        refine kB hK hHeld hB fun hHeld=>?_
        clear hK K
        try simp only[sQ]
      rotate_left 2
      focus
       refine Zar rfl 24 rfl zTrC Zas ?_
       intro g9 v4 b9 e9 hB
       have n9:=Vx1 hHeld.size b9
       replace q:=Twn.box q 2 hB b9 e9
       refine kB hK hHeld hB fun hHeld=>?_
       clear hK K
       try simp only[sQ]
       refine rdH2 3 5 rfl rfl (fun K hK=>?_) (fun K hK=>?_)
       focus
        go_simp
        refine(hTb.out _ (P2.out.bel hHeld) (Q2.out.bel hHeld)).mono ?_
        rintro e v3 ⟨D2,d2,X2,e2,rfl,ho1,ho2,hB⟩
        replace q:=Twn.own2 q 1 hB ho1 ho2
        go_wp2_with fail
        refine kB hK hHeld hB fun hHeld=>?_
        clear hK K
        try simp only[sQ]
        refine rdH 5 rfl fun K hK=>?_
        refine Zar rfl 36 rfl zBodyC YbU ?_
        intro g10 v5 b10 e10 hB
        have n10:=Vx1 hHeld.size b10
        replace q:=Twn.box q 3 hB b10 e10
        refine kB hK hHeld hB fun hHeld=>?_
        clear hK K
        try simp only[sQ]
       rotate_left
       focus
        refine Zar rfl 36 rfl zBodyC YbU ?_
        intro g10 v5 b10 e10 hB
        have n10:=Vx1 hHeld.size b10
        replace q:=Twn.box q 3 hB b10 e10
        refine kB hK hHeld hB fun hHeld=>?_
        clear hK K
        try simp only[sQ]
        refine rdH 3 rfl fun K hK=>?_
        go_simp
        refine(hTb.out _ (P2.out.bel hHeld) (Q2.out.bel hHeld)).mono ?_
        rintro e v3 ⟨D2,d2,X2,e2,rfl,ho1,ho2,hB⟩
        replace q:=Twn.own2 q 1 hB ho1 ho2
        go_wp2_with fail
        refine kB hK hHeld hB fun hHeld=>?_
        clear hK K
        try simp only[sQ]
      rotate_left 2
      focus
       refine Zar rfl 36 rfl zBodyC YbU ?_
       intro g10 v5 b10 e10 hB
       have n10:=Vx1 hHeld.size b10
       replace q:=Twn.box q 3 hB b10 e10
       refine kB hK hHeld hB fun hHeld=>?_
       clear hK K
       try simp only[sQ]
       refine rdH2 3 4 rfl rfl (fun K hK=>?_) (fun K hK=>?_)
       focus
        go_simp
        refine(hTb.out _ (P2.out.bel hHeld) (Q2.out.bel hHeld)).mono ?_
        rintro e v3 ⟨D2,d2,X2,e2,rfl,ho1,ho2,hB⟩
        replace q:=Twn.own2 q 1 hB ho1 ho2
        go_wp2_with fail
        refine kB hK hHeld hB fun hHeld=>?_
        clear hK K
        try simp only[sQ]
        refine rdH 4 rfl fun K hK=>?_
        refine Zar rfl 24 rfl zTrC Zas ?_
        intro g9 v4 b9 e9 hB
        have n9:=Vx1 hHeld.size b9
        replace q:=Twn.box q 2 hB b9 e9
        refine kB hK hHeld hB fun hHeld=>?_
        clear hK K
        try simp only[sQ]
       rotate_left
       focus
        refine Zar rfl 24 rfl zTrC Zas ?_
        intro g9 v4 b9 e9 hB
        have n9:=Vx1 hHeld.size b9
        replace q:=Twn.box q 2 hB b9 e9
        refine kB hK hHeld hB fun hHeld=>?_
        clear hK K
        try simp only[sQ]
        refine rdH 3 rfl fun K hK=>?_
        go_simp
        refine(hTb.out _ (P2.out.bel hHeld) (Q2.out.bel hHeld)).mono ?_
        rintro e v3 ⟨D2,d2,X2,e2,rfl,ho1,ho2,hB⟩
        replace q:=Twn.own2 q 1 hB ho1 ho2
        go_wp2_with fail
        refine kB hK hHeld hB fun hHeld=>?_
        clear hK K
        try simp only[sQ]
     rotate_left 6
     focus
      refine Zar rfl 24 rfl zTrC Zas ?_
      intro g9 v4 b9 e9 hB
      have n9:=Vx1 hHeld.size b9
      replace q:=Twn.box q 2 hB b9 e9
      refine kB hK hHeld hB fun hHeld=>?_
      clear hK K
      try simp only[sQ]
      refine rdH2 1 5 rfl rfl (fun K hK=>?_) (fun K hK=>?_)
      focus
       go_simp
       refine(hTw.out _ (R2.out.bel hHeld)).mono ?_
       rintro e v1 ⟨A2,c2,rfl,ho,hB⟩
       replace q:=Twn.own q 0 hB ho
       go_wp2_with fail
       refine kB hK hHeld hB fun hHeld=>?_
       clear hK K
       try simp only[sQ]
       refine rdH2 3 5 rfl rfl (fun K hK=>?_) (fun K hK=>?_)
       focus
        go_simp
        refine(hTb.out _ (P2.out.bel hHeld) (Q2.out.bel hHeld)).mono ?_
        rintro e v3 ⟨D2,d2,X2,e2,rfl,ho1,ho2,hB⟩
        replace q:=Twn.own2 q 1 hB ho1 ho2
        go_wp2_with fail
        refine kB hK hHeld hB fun hHeld=>?_
        clear hK K
        try simp only[sQ]
        refine rdH 5 rfl fun K hK=>?_
        refine Zar rfl 36 rfl zBodyC YbU ?_
        intro g10 v5 b10 e10 hB
        have n10:=Vx1 hHeld.size b10
        replace q:=Twn.box q 3 hB b10 e10
        refine kB hK hHeld hB fun hHeld=>?_
        clear hK K
        try simp only[sQ]
       rotate_left
       focus
        refine Zar rfl 36 rfl zBodyC YbU ?_
        intro g10 v5 b10 e10 hB
        have n10:=Vx1 hHeld.size b10
        replace q:=Twn.box q 3 hB b10 e10
        refine kB hK hHeld hB fun hHeld=>?_
        clear hK K
        try simp only[sQ]
        refine rdH 3 rfl fun K hK=>?_
        go_simp
        refine(hTb.out _ (P2.out.bel hHeld) (Q2.out.bel hHeld)).mono ?_
        rintro e v3 ⟨D2,d2,X2,e2,rfl,ho1,ho2,hB⟩
        replace q:=Twn.own2 q 1 hB ho1 ho2
        go_wp2_with fail
        refine kB hK hHeld hB fun hHeld=>?_
        clear hK K
        try simp only[sQ]
      rotate_left 2
      focus
       refine Zar rfl 36 rfl zBodyC YbU ?_
       intro g10 v5 b10 e10 hB
       have n10:=Vx1 hHeld.size b10
       replace q:=Twn.box q 3 hB b10 e10
       refine kB hK hHeld hB fun hHeld=>?_
       clear hK K
       try simp only[sQ]
       refine rdH 1 rfl fun K hK=>?_
       go_simp
       refine(hTw.out _ (R2.out.bel hHeld)).mono ?_
       rintro e v1 ⟨A2,c2,rfl,ho,hB⟩
       replace q:=Twn.own q 0 hB ho
       go_wp2_with fail
       refine kB hK hHeld hB fun hHeld=>?_
       clear hK K
       try simp only[sQ]
       refine rdH 3 rfl fun K hK=>?_
       go_simp
       refine(hTb.out _ (P2.out.bel hHeld) (Q2.out.bel hHeld)).mono ?_
       rintro e v3 ⟨D2,d2,X2,e2,rfl,ho1,ho2,hB⟩
       replace q:=Twn.own2 q 1 hB ho1 ho2
       go_wp2_with fail
       refine kB hK hHeld hB fun hHeld=>?_
       clear hK K
       try simp only[sQ]
     rotate_left 3
     focus
      refine Zar rfl 36 rfl zBodyC YbU ?_
      intro g10 v5 b10 e10 hB
      have n10:=Vx1 hHeld.size b10
      replace q:=Twn.box q 3 hB b10 e10
      refine kB hK hHeld hB fun hHeld=>?_
      clear hK K
      try simp only[sQ]
      refine rdH2 1 4 rfl rfl (fun K hK=>?_) (fun K hK=>?_)
      focus
       go_simp
       refine(hTw.out _ (R2.out.bel hHeld)).mono ?_
       rintro e v1 ⟨A2,c2,rfl,ho,hB⟩
       replace q:=Twn.own q 0 hB ho
       go_wp2_with fail
       refine kB hK hHeld hB fun hHeld=>?_
       clear hK K
       try simp only[sQ]
       refine rdH2 3 4 rfl rfl (fun K hK=>?_) (fun K hK=>?_)
       focus
        go_simp
        refine(hTb.out _ (P2.out.bel hHeld) (Q2.out.bel hHeld)).mono ?_
        rintro e v3 ⟨D2,d2,X2,e2,rfl,ho1,ho2,hB⟩
        replace q:=Twn.own2 q 1 hB ho1 ho2
        go_wp2_with fail
        refine kB hK hHeld hB fun hHeld=>?_
        clear hK K
        try simp only[sQ]
        refine rdH 4 rfl fun K hK=>?_
        refine Zar rfl 24 rfl zTrC Zas ?_
        intro g9 v4 b9 e9 hB
        have n9:=Vx1 hHeld.size b9
        replace q:=Twn.box q 2 hB b9 e9
        refine kB hK hHeld hB fun hHeld=>?_
        clear hK K
        try simp only[sQ]
       rotate_left
       focus
        refine Zar rfl 24 rfl zTrC Zas ?_
        intro g9 v4 b9 e9 hB
        have n9:=Vx1 hHeld.size b9
        replace q:=Twn.box q 2 hB b9 e9
        refine kB hK hHeld hB fun hHeld=>?_
        clear hK K
        try simp only[sQ]
        refine rdH 3 rfl fun K hK=>?_
        go_simp
        refine(hTb.out _ (P2.out.bel hHeld) (Q2.out.bel hHeld)).mono ?_
        rintro e v3 ⟨D2,d2,X2,e2,rfl,ho1,ho2,hB⟩
        replace q:=Twn.own2 q 1 hB ho1 ho2
        go_wp2_with fail
        refine kB hK hHeld hB fun hHeld=>?_
        clear hK K
        try simp only[sQ]
      rotate_left 2
      focus
       refine Zar rfl 24 rfl zTrC Zas ?_
       intro g9 v4 b9 e9 hB
       have n9:=Vx1 hHeld.size b9
       replace q:=Twn.box q 2 hB b9 e9
       refine kB hK hHeld hB fun hHeld=>?_
       clear hK K
       try simp only[sQ]
       refine rdH 1 rfl fun K hK=>?_
       go_simp
       refine(hTw.out _ (R2.out.bel hHeld)).mono ?_
       rintro e v1 ⟨A2,c2,rfl,ho,hB⟩
       replace q:=Twn.own q 0 hB ho
       go_wp2_with fail
       refine kB hK hHeld hB fun hHeld=>?_
       clear hK K
       try simp only[sQ]
       refine rdH 3 rfl fun K hK=>?_
       go_simp
       refine(hTb.out _ (P2.out.bel hHeld) (Q2.out.bel hHeld)).mono ?_
       rintro e v3 ⟨D2,d2,X2,e2,rfl,ho1,ho2,hB⟩
       replace q:=Twn.own2 q 1 hB ho1 ho2
       go_wp2_with fail
       refine kB hK hHeld hB fun hHeld=>?_
       clear hK K
       try simp only[sQ]
     all_goals
      refine rdH 6 rfl fun K hK=>?_
      refine Zaj rfl 24 (.tmp 9) (.tmp 27) rfl g9 _ rfl rfl 24 zTrC (Twn.get q 2 rfl).2.2 Zah rfl (Zat A2 ns.length c2 root) ?_
      intro v6 d6 hG6
      replace q:=Twn.store q 2 rfl hG6 d6
      refine hK.out _ _ (hHeld.grown hG6 hHeld.size (by intro k hk;injection hk with hk;subst hk;exact n9)) fun hHeld=>?_
      clear hK K
      try simp only[sQ]
      refine rdH 7 rfl fun K hK=>?_
      refine Zaj rfl 36 (.tmp 10) (.tmp 29) rfl g10 _ rfl rfl 36 zBodyC (Twn.get q 3 rfl).2.2 (ZfA _ _) rfl (YdH _ _ _ _ _ _) ?_
      intro v7 d7 hG7
      replace q:=Twn.store q 3 rfl hG7 d7
      refine hK.out _ _ (hHeld.grown hG7 hHeld.size (by intro k hk;injection hk with hk;subst hk;exact n10)) fun hHeld=>?_
      clear hK K
      try simp only[sQ]
      refine dnN ?_
      exact⟨_,_,_,_,_,_,_,_,_,_,_,_,_,_,_,g9,g10,A2,c2,D2,d2,X2,e2,rfl,(Twn.get q 2 rfl).2.2,(Twn.get q 3 rfl).2.2,(OwnR.row (OwnM.own (Twn.get q 0 rfl))).mono (fun _ _ _=>trivial),(OwnR.row (OwnM.own (Twn.get q 1 rfl).1)).mono (fun _ _ _=>trivial),(OwnR.row (OwnM.own (Twn.get q 1 rfl).2)).mono (fun _ _ _=>trivial),hHeld⟩
   case rest=>
    rintro a w3 ⟨y0,y1,y2,y3,y8,y20,y21,y22,y23,y24,y25,y26,y27,y28,y29,g9,g10,A2,c2,D2,d2,X2,e2,rfl,h9,h10,r1,r2,r3,hb⟩
    clear hTw hTb
    have T3:=hid (T2.out.bel hb)
    have N3:=hid (Zab hb N2.out)
    have B3:=hid (Zab hb B2.out)
    have S3:=hid (Zab hb S2.out)
    have R3:=hid (R2.out.bel hb)
    have P3:=hid (P2.out.bel hb)
    have Q3:=hid (Q2.out.bel hb)
    have H3:=hid (H2.out.bel hb (Vx4 hlow.out W2.out.size))
    have W3:=hid (W2.out.trans (hb.mono W2.out.size))
    clear T2 N2 B2 S2 R2 P2 Q2 H2 W2
    have O3:=hid (BoxT.of (Zae (l:=[Value.slice A2 ns.length c2,.int .i64 root]) h9))
    have U3:=hid (Zae (l:=[Value.slice D2 ds.length d2,.slice X2 xs.length e2]) h10)
    have I3:=hid r1
    have J3:=hid r2
    have K3:=hid r3
    have hiO:=hid (show (Tryz.prog.info? 24).map (·.size)=some ([Value.slice A2 ns.length c2,.int .i64 root]).length from Zah)
    have jB2:=hid (show (Tryz.prog.info? 36).map (·.size)=some ([Value.slice D2 ds.length d2,.slice X2 xs.length e2]).length from ZfA _ _)
    clear h9 h10 r1 r2 r3 hb
    obtain⟨pz,hpz⟩:∃v,applyE ⟨ns,root⟩ xh ds xs box=v:=⟨_,rfl⟩
    obtain⟨hh,hhe⟩:∃v,applyH ⟨ns,root⟩ xh ds xs box=v:=⟨_,rfl⟩
    obtain⟨rs,hre⟩:∃v,applyR ⟨ns,root⟩ xh ds xs box=v:=⟨_,rfl⟩
    obtain⟨L,hLe⟩:∃v,applyL ⟨ns,root⟩ xh ds xs box=v:=⟨_,rfl⟩
    obtain⟨hho,hrl⟩:=Zyk (t:=⟨ns,root⟩) (x:=xh) (box:=box) ld lx
    rw[hhe]at hho
    rw[hre]at hrl
    have hAp:=hid (fun A c D d X e W hW hD hX hT=>Zd6 (fun _=>True) (fun _=>True) (fun _=>True) A c ns root xh D d ds X e xs box W hx hW (by omega) hD hX (by omega) (by omega) hT pz hh rs (fun o=>(pz=0→mayA o=true∧allT o=L∧o.ns.length≤100000∧∃r,o.ns=ns++r)∧(¬ pz=0→o=⟨[],0⟩)) hpz hhe hre (fun o ho=>⟨fun h0=>by
     rw[← hpz]at h0
     obtain⟨k1,k2,k3,k4⟩:=Zc4 h0 ho
     exact⟨k1,by rw[k2,←(Zbx h0).1,hLe],by dsimp only at k3;omega,k4⟩,fun h0=>(Zur (by rw[hpz];exact h0) ho).1⟩))
    have hRf:=fun W hW hD hX=>Zv3 (fun b=>b<w.heap.size) (fun b=>b<w.heap.size) (fun b=>b<w.heap.size) A0 c0 ns root xh D0 d0 ds X0 e0 xs box W hW (by omega) hD hX (by omega) (by omega)
    unfold ApplyPost at hRf
    rw[hpz,hhe,hre,hLe]at hRf
    have hEq:∀W,(Op.equalIn 10000 28 (.agg (hdC hh).toArray) (.agg (hdC hh).toArray)).run Tryz.prog W=.ok true W:=fun W=>ZhR hh hh hho hho true (Vy2 rfl) W
    have hSr:=fun (F G:Nat→Prop) A D c d W hW hV=>ZmC F G A D c d rs rs W hW hV (by omega) (by omega)
    rw[Vy2 (rfl:rs=rs)]at hSr
    have hSt:=hid (fun (F G:Nat→Prop) A D c d W hW hV=>ZcJ F G A D c d ns root W hW hV (by omega))
    have hSb:=fun D d X e D2 d2 X2 e2 W h1 h2 h3 h4=>Zpd (fun _=>True) (fun b=>b<w.heap.size) (fun _=>True) (fun b=>b<w.heap.size) D d ds X e xs D2 d2 ds X2 e2 xs W h1 h2 h3 h4 (by omega) (by omega)
    rw[Vy2 (rfl:ds=ds),Vy2 (rfl:xs=xs)]at hSb
    have hEq2:=hEq
    replace hRf:=hid hRf
    replace hSr:=hid hSr
    replace hSb:=hid (show _ from hSb)
    have hLp:=hid hLe
    have hpp:=hid hpz
    clear hpz hhe hre hLe hho hrl hEq2
    have nhh:=hid (ZbM (hh))
    have jhh:=hid (Zbu (hh))
    have ahh:=hid (Zbg (hh))
    have zhh:=hid (Zbw (hh))
    go_wp2_with (first
     |(with_reducible refine lDr O3.out.all hiO.out hut ?_)
     |(with_reducible refine lDr N3.out jxh.out huh ?_)
     |(with_reducible refine lDr U3.out jB2.out hub ?_)
     |(with_reducible refine lDr S3.out hiS.out hu ?_))
    refine(hAp.out A2 c2 D2 d2 X2 e2 _ I3.out J3.out K3.out H3.out).mono ?_
    rintro e w4 ⟨⟨na4,ra4⟩,ad4,cd4,Rr4,rq4,rfl,ho,hq,hb,hok4⟩
    dsimp only at ho hok4 ⊢
    have T4:=hid (T3.out.bel hb)
    have N4:=hid (Zab hb N3.out)
    have B4:=hid (Zab hb B3.out)
    have S4:=hid (Zab hb S3.out)
    have R4:=hid (R3.out.bel hb)
    have P4:=hid (P3.out.bel hb)
    have Q4:=hid (Q3.out.bel hb)
    have H4:=hid (H3.out.bel hb (Vx4 hlow.out W3.out.size))
    have W4:=hid (W3.out.trans (hb.mono W3.out.size))
    have O4:=hid (O3.out.bel hb)
    have U4:=hid (Zab hb U3.out)
    have I4:=hid (I3.out.bel hb)
    have J4:=hid (J3.out.bel hb)
    have K4:=hid (K3.out.bel hb)
    clear T3 N3 B3 S3 R3 P3 Q3 H3 W3 O3 U3 I3 J3 K3
    have hcE:=hid (show na4.length≤cd4 from ho.cap.1)
    have E4:=hid (OwnR.row ho)
    have Y4:=hid (OwnR.row hq)
    replace hok4:=hid hok4
    clear hb ho hq hAp
    have ea4:=hid (((Zad (w4.alloc (.cells zTrC 24)) (.cells zHdC 28)).block _ (by rw[Vx2];exact Nat.lt_succ_self _)).trans (Vx0 w4 (.cells zTrC 24)))
    have eb4:=Vx0 (w4.alloc (.cells zTrC 24)) (.cells zHdC 28)
    rw[Vx2]at eb4
    replace eb4:=hid eb4
    have hW4:=hid (Zag (Zad w4 (.cells zTrC 24)) (Zad (w4.alloc (.cells zTrC 24)) (.cells zHdC 28)))
    have hiF:=hid (show (Tryz.prog.info? 24).map (·.size)=some ([Value.slice ad4 na4.length cd4,.int .i64 ra4]).length from Zah)
    go_wp2_with (first
     |(with_reducible refine Zac rfl 24 rfl zTrC Zas ?_)
     |(with_reducible refine Zac rfl 28 rfl zHdC Za9 ?_)
     |((with_reducible refine stW 11 36 _ 24 zTrC ?_ ?_ ?_ ?_ ?_);exact ea4.out;exact Zah;rfl;exact Zat ad4 na4.length cd4 ra4;intro w5a g1 b1 s1;refine wpList_store_row rfl 28 (.tmp 12) (.tmp 37) rfl (w4.heap.size+1) _ ?_ rfl 28 zHdC ?_ ?_ ?_ ?_ ?_;(first|rfl|(simp only[Vx2];rfl));exact(b1.block _ (block_lt eb4.out) (by simp)).trans eb4.out;exact ahh.out;exact zhh.out;exact nhh.out;intro w5 g2 b2 s2;have X5a:=hW4.out.grown b1 hW4.out.size (fun k e=>by injection e with e;omega);have X5:=hid (X5a.grown b2 X5a.size (fun k e=>by injection e with e;omega));have F5:=hid (BoxT.of (Zae (l:=[Value.slice ad4 na4.length cd4,.int .i64 ra4]) ((b2.block _ (block_lt g1) (by simp)).trans g1)));have G5:=hid (Zae (l:=hdC hh) g2);clear g1 b1 s1 g2 b2 s2 X5a ea4 eb4 hW4;have T5:=hid (T4.out.bel X5.out);have N5:=hid (Zab X5.out N4.out);have B5:=hid (Zab X5.out B4.out);have S5:=hid (Zab X5.out S4.out);have R5:=hid (R4.out.bel X5.out);have P5:=hid (P4.out.bel X5.out);have Q5:=hid (Q4.out.bel X5.out);have H5:=hid (H4.out.bel X5.out (Vx4 hlow.out W4.out.size));have W5:=hid (W4.out.trans (X5.out.mono W4.out.size));have O5:=hid (O4.out.bel X5.out);have U5:=hid (Zab X5.out U4.out);have I5:=hid (I4.out.bel X5.out);have J5:=hid (J4.out.bel X5.out);have K5:=hid (K4.out.bel X5.out);have E5:=hid (E4.out.bel X5.out);have Y5:=hid (Y4.out.bel X5.out);clear T4 N4 B4 S4 R4 P4 Q4 H4 W4 O4 U4 I4 J4 K4 E4 Y4)
     |(with_reducible refine lDr T5.out.all hiT.out hut ?_)
     |(with_reducible refine lDr N5.out jxh.out huh ?_)
     |(with_reducible refine lDr B5.out jBd.out hub ?_)
     |(with_reducible refine lDr S5.out hiS.out hu ?_))
    refine(hRf.out _ R5.out P5.out Q5.out).mono ?_
    rintro e w6 ⟨A6,c6,R6,q6,rfl,ho,hq,hb⟩
    have T6:=hid (T5.out.bel hb)
    have N6:=hid (Zab hb N5.out)
    have B6:=hid (Zab hb B5.out)
    have S6:=hid (Zab hb S5.out)
    have R6:=hid (R5.out.bel hb)
    have P6:=hid (P5.out.bel hb)
    have Q6:=hid (Q5.out.bel hb)
    have H6:=hid (H5.out.bel hb (Vx4 hlow.out W5.out.size))
    have W6:=hid (W5.out.trans (hb.mono W5.out.size))
    have O6:=hid (O5.out.bel hb)
    have U6:=hid (Zab hb U5.out)
    have I6:=hid (I5.out.bel hb)
    have J6:=hid (J5.out.bel hb)
    have K6:=hid (K5.out.bel hb)
    have E6:=hid (E5.out.bel hb)
    have Y6:=hid (Y5.out.bel hb)
    have F6:=hid (F5.out.bel hb)
    have G6:=hid (Zab hb G5.out)
    clear T5 N5 B5 S5 R5 P5 Q5 H5 W5 O5 U5 I5 J5 K5 E5 Y5 F5 G5
    have L6:=hid (OwnR.row ho)
    have M6:=hid (OwnR.row hq)
    clear hb ho hq hRf
    have e6:=hid (Vx0 w6 (.cells zHdC 28))
    go_wp2_with (first
     |(with_reducible refine Zac rfl 28 rfl zHdC Za9 ?_)
     |((with_reducible refine stW 16 47 _ 28 zHdC ?_ ?_ ?_ ?_ ?_);exact e6.out;exact ahh.out;exact zhh.out;exact nhh.out;intro w7 hgS hbS hsS;have X7:=hid (Zan rfl hbS);have V7:=hid (Zae (l:=hdC hh) hgS);clear hgS hbS hsS;have T7:=hid (T6.out.bel X7.out);have N7:=hid (Zab X7.out N6.out);have B7:=hid (Zab X7.out B6.out);have S7:=hid (Zab X7.out S6.out);have R7:=hid (R6.out.bel X7.out);have P7:=hid (P6.out.bel X7.out);have Q7:=hid (Q6.out.bel X7.out);have H7:=hid (H6.out.bel X7.out (Vx4 hlow.out W6.out.size));have W7:=hid (W6.out.trans (X7.out.mono W6.out.size));have O7:=hid (O6.out.bel X7.out);have U7:=hid (Zab X7.out U6.out);have I7:=hid (I6.out.bel X7.out);have J7:=hid (J6.out.bel X7.out);have K7:=hid (K6.out.bel X7.out);have E7:=hid (E6.out.bel X7.out);have Y7:=hid (Y6.out.bel X7.out);have F7:=hid (F6.out.bel X7.out);have G7:=hid (Zab X7.out G6.out);have L7:=hid (L6.out.bel X7.out);have M7:=hid (M6.out.bel X7.out);clear T6 N6 B6 S6 R6 P6 Q6 H6 W6 O6 U6 I6 J6 K6 E6 Y6 F6 G6 L6 M6)
     |(with_reducible refine lDr G7.out jhh.out huh ?_)
     |(with_reducible refine lDr V7.out jhh.out huh ?_))
    refine(hSr.out _ _ Rr4 R6 rq4 q6 _ Y7.out M7.out).mono ?_
    rintro e w8 ⟨rfl,hb⟩
    have T8:=hid (T7.out.bel hb)
    have N8:=hid (Zab hb N7.out)
    have B8:=hid (Zab hb B7.out)
    have S8:=hid (Zab hb S7.out)
    have R8:=hid (R7.out.bel hb)
    have P8:=hid (P7.out.bel hb)
    have Q8:=hid (Q7.out.bel hb)
    have H8:=hid (H7.out.bel hb (Vx4 hlow.out W7.out.size))
    have W8:=hid (W7.out.trans (hb.mono W7.out.size))
    have O8:=hid (O7.out.bel hb)
    have U8:=hid (Zab hb U7.out)
    have I8:=hid (I7.out.bel hb)
    have J8:=hid (J7.out.bel hb)
    have K8:=hid (K7.out.bel hb)
    have E8:=hid (E7.out.bel hb)
    have Y8:=hid (Y7.out.bel hb)
    have F8:=hid (F7.out.bel hb)
    have G8:=hid (Zab hb G7.out)
    have L8:=hid (L7.out.bel hb)
    have M8:=hid (M7.out.bel hb)
    have V8:=hid (Zab hb V7.out)
    clear T7 N7 B7 S7 R7 P7 Q7 H7 W7 O7 U7 I7 J7 K7 E7 Y7 F7 G7 L7 M7 V7
    clear hb hSr
    clear Y8
    clear M8
    clear V8
    clear G8
    by_cases hz:pz=0
    case neg=>
     have hno:=hok4.out.2 hz
     have hzn:(pz !=0)=true:=bne_iff_ne.2 hz
     have hzz:(pz==pz)=true:=beq_self_eq_true pz
     injection hno with hn0 hr0
     subst hn0 hr0
     replace hz:=hid hz
     go_wp2_with (first
      |(with_reducible refine lDr O8.out.all hiO.out hut ?_)
      |(with_reducible refine lDr T8.out.all hiT.out hut ?_))
     refine(hSt.out _ _ A2 A0 c2 c0 _ I8.out R8.out).mono ?_
     rintro e w9 ⟨rfl,hb⟩
     have T9:=hid (T8.out.bel hb)
     have N9:=hid (Zab hb N8.out)
     have B9:=hid (Zab hb B8.out)
     have S9:=hid (Zab hb S8.out)
     have R9:=hid (R8.out.bel hb)
     have P9:=hid (P8.out.bel hb)
     have Q9:=hid (Q8.out.bel hb)
     have H9:=hid (H8.out.bel hb (Vx4 hlow.out W8.out.size))
     have W9:=hid (W8.out.trans (hb.mono W8.out.size))
     have O9:=hid (O8.out.bel hb)
     have U9:=hid (Zab hb U8.out)
     have I9:=hid (I8.out.bel hb)
     have J9:=hid (J8.out.bel hb)
     have K9:=hid (K8.out.bel hb)
     have E9:=hid (E8.out.bel hb)
     have F9:=hid (F8.out.bel hb)
     have L9:=hid (L8.out.bel hb)
     clear T8 N8 B8 S8 R8 P8 Q8 H8 W8 O8 U8 I8 J8 K8 E8 F8 L8
     clear hb 
     go_wp2_with (first
      |(with_reducible refine lDr U9.out jB2.out hub ?_)
      |(with_reducible refine lDr B9.out jBd.out hub ?_))
     refine(hSb.out D2 d2 X2 e2 D0 d0 X0 e0 _ J9.out P9.out K9.out Q9.out).mono ?_
     rintro e w10 ⟨rfl,hb⟩
     have T10:=hid (T9.out.bel hb)
     have N10:=hid (Zab hb N9.out)
     have B10:=hid (Zab hb B9.out)
     have S10:=hid (Zab hb S9.out)
     have R10:=hid (R9.out.bel hb)
     have P10:=hid (P9.out.bel hb)
     have Q10:=hid (Q9.out.bel hb)
     have H10:=hid (H9.out.bel hb (Vx4 hlow.out W9.out.size))
     have W10:=hid (W9.out.trans (hb.mono W9.out.size))
     have O10:=hid (O9.out.bel hb)
     have U10:=hid (Zab hb U9.out)
     have I10:=hid (I9.out.bel hb)
     have J10:=hid (J9.out.bel hb)
     have K10:=hid (K9.out.bel hb)
     have E10:=hid (E9.out.bel hb)
     have F10:=hid (F9.out.bel hb)
     have L10:=hid (L9.out.bel hb)
     clear T9 N9 B9 S9 R9 P9 Q9 H9 W9 O9 U9 I9 J9 K9 E9 F9 L9
     clear hb 
     have y10:=F10.out.ns
     simp only[List.length_nil]at y10
     go_wp2
     go_ret
     exact⟨rfl,W10.out⟩
    case pos=>
     obtain⟨hma,hal,hnl,ms,hms⟩:=hok4.out.1 hz
     try dsimp only at hnl hms
     have hzz:(pz==pz)=true:=beq_self_eq_true pz
     have hmt:=(Zff hma).1
     have hxl:na4.length=ns.length+ms.length:=by rw[hms,Vx3]
     have htk:na4.take ns.length=ns:=by rw[hms,List.take_left]
     have hC:=hid (fun F W hW=>ZcC F ad4 cd4 na4 ra4 true W hW (by omega) hmt)
     have hA:=fun F W hW=>ZbT F ad4 cd4 na4 ra4 W hW (by omega) hmt
     rw[hal]at hA
     have hS2:=hid (fun (F:Nat→Prop) W (hW:Row F W ad4 na4) hV=>ZcJ F (fun b=>b<w.heap.size) ad4 A0 cd4 c0 ns root W (by have:=hW.take ns.length;rw[htk]at this;exact this) hV (by omega))
     have hLl:L.length≤262144:=by rw[← hal];exact(ZhL hmt).2
     have hSp:=fun (K G:Nat→Prop) A5 c5 W hW hV=>ZbH K G A5 A6 c5 c6 L.length L.length L L W hW hV rfl rfl (by omega) (by omega)
     rw[Vy2 (rfl:L=L)]at hSp
     have hbl:=hid (ZhN ad4 ns.length cd4 root)
     have hcut:=hid (Zcl slotNd ad4 na4.length cd4 ns.length (by have:=hcE.out;omega))
     have q1:decide ((na4.length:Int)<(ns.length:Int))=false:=Vy1 (by omega)
     have q1n:decide (na4.length<ns.length)=false:=Vy1 (by omega)
     have hx1:ns.length≤na4.length:=by omega
     have hiQ:=hid (show (Tryz.prog.info? 24).map (·.size)=some ([Value.slice ad4 ns.length cd4,.int .i64 root]).length from Zah)
     replace hA:=hid hA
     replace hSp:=hid hSp
     subst hz
     clear hma hal hms hmt hxl htk hLl hok4 hnl
     go_wp2_with (first
      |(with_reducible refine lDr O8.out.all hiO.out hut ?_)
      |(with_reducible refine lDr T8.out.all hiT.out hut ?_))
     refine(hSt.out _ _ A2 A0 c2 c0 _ I8.out R8.out).mono ?_
     rintro e w9 ⟨rfl,hb⟩
     have T9:=hid (T8.out.bel hb)
     have N9:=hid (Zab hb N8.out)
     have B9:=hid (Zab hb B8.out)
     have S9:=hid (Zab hb S8.out)
     have R9:=hid (R8.out.bel hb)
     have P9:=hid (P8.out.bel hb)
     have Q9:=hid (Q8.out.bel hb)
     have H9:=hid (H8.out.bel hb (Vx4 hlow.out W8.out.size))
     have W9:=hid (W8.out.trans (hb.mono W8.out.size))
     have O9:=hid (O8.out.bel hb)
     have U9:=hid (Zab hb U8.out)
     have I9:=hid (I8.out.bel hb)
     have J9:=hid (J8.out.bel hb)
     have K9:=hid (K8.out.bel hb)
     have E9:=hid (E8.out.bel hb)
     have F9:=hid (F8.out.bel hb)
     have L9:=hid (L8.out.bel hb)
     clear T8 N8 B8 S8 R8 P8 Q8 H8 W8 O8 U8 I8 J8 K8 E8 F8 L8
     clear hb 
     go_wp2_with (first
      |(with_reducible refine lDr U9.out jB2.out hub ?_)
      |(with_reducible refine lDr B9.out jBd.out hub ?_))
     refine(hSb.out D2 d2 X2 e2 D0 d0 X0 e0 _ J9.out P9.out K9.out Q9.out).mono ?_
     rintro e w10 ⟨rfl,hb⟩
     have T10:=hid (T9.out.bel hb)
     have N10:=hid (Zab hb N9.out)
     have B10:=hid (Zab hb B9.out)
     have S10:=hid (Zab hb S9.out)
     have R10:=hid (R9.out.bel hb)
     have P10:=hid (P9.out.bel hb)
     have Q10:=hid (Q9.out.bel hb)
     have H10:=hid (H9.out.bel hb (Vx4 hlow.out W9.out.size))
     have W10:=hid (W9.out.trans (hb.mono W9.out.size))
     have O10:=hid (O9.out.bel hb)
     have U10:=hid (Zab hb U9.out)
     have I10:=hid (I9.out.bel hb)
     have J10:=hid (J9.out.bel hb)
     have K10:=hid (K9.out.bel hb)
     have E10:=hid (E9.out.bel hb)
     have F10:=hid (F9.out.bel hb)
     have L10:=hid (L9.out.bel hb)
     clear T9 N9 B9 S9 R9 P9 Q9 H9 W9 O9 U9 I9 J9 K9 E9 F9 L9
     clear hb 
     have y10:=F10.out.ns
     have y11:=T10.out.ns
     go_wp2_with ((with_reducible refine lDr F10.out.all hiF.out hut ?_))
     clear y10 y11
     refine(hC.out _ _ E10.out).mono ?_
     rintro e w11 ⟨rfl,hb⟩
     have T11:=hid (T10.out.bel hb)
     have N11:=hid (Zab hb N10.out)
     have B11:=hid (Zab hb B10.out)
     have S11:=hid (Zab hb S10.out)
     have R11:=hid (R10.out.bel hb)
     have P11:=hid (P10.out.bel hb)
     have Q11:=hid (Q10.out.bel hb)
     have H11:=hid (H10.out.bel hb (Vx4 hlow.out W10.out.size))
     have W11:=hid (W10.out.trans (hb.mono W10.out.size))
     have O11:=hid (O10.out.bel hb)
     have U11:=hid (Zab hb U10.out)
     have I11:=hid (I10.out.bel hb)
     have J11:=hid (J10.out.bel hb)
     have K11:=hid (K10.out.bel hb)
     have E11:=hid (E10.out.bel hb)
     have F11:=hid (F10.out.bel hb)
     have L11:=hid (L10.out.bel hb)
     clear T10 N10 B10 S10 R10 P10 Q10 H10 W10 O10 U10 I10 J10 K10 E10 F10 L10
     clear hb hC
     have z1:=F11.out.ns
     have z2:=T11.out.ns
     have z3:=T11.out.rt
     go_wp2_with fail
     refine rgB fun hHeld=>?_
     refine' tkP 0 rfl ?_
     refine' tkC 1 rfl z1 ?_
     refine' tkP 2 rfl ?_
     refine' tkC 3 rfl z2 ?_
     simp only[sQ]
     refine' tkP 4 rfl ?_
     simp only[sQ]
     refine' tkH 5 rfl (Yb2 (by rfl) _ _ _ _ _ rfl _ _ _ _ _ (hcut.out) rfl rfl rfl rfl) ?_
     simp only[sQ]
     refine' tkP 6 rfl ?_
     refine' tkC 7 rfl z3 ?_
     simp only[sQ]
     refine' tkH 8 rfl (Yb1 (by rfl) _ _ rfl _ _ (hbl.out) rfl) ?_
     simp only[sQ]
     refine rdH 9 rfl fun K hK=>?_
     refine Zar rfl 24 rfl zTrC Zas ?_
     intro g6 w8' b6 e6 hB
     refine kB hK hHeld hB fun hHeld=>?_
     clear hK K
     try simp only[sQ]
     refine rdH 10 rfl fun K hK=>?_
     refine Zaj rfl 24 (.tmp 19) (.tmp 102) rfl g6 _ rfl rfl 24 zTrC e6 Zah rfl (Zat ad4 ns.length cd4 root) ?_
     intro w12 d6 hG
     refine hK.out _ _ (hHeld.grown hG hHeld.size (by intro k hk;injection hk with hk;subst hk;exact b6)) fun hHeld=>?_
     clear hK K
     try simp only[sQ]
     refine dnN ?_
     clear z1 z2 z3
     have T12:=hid (T11.out.bel hHeld)
     have N12:=hid (Zab hHeld N11.out)
     have B12:=hid (Zab hHeld B11.out)
     have S12:=hid (Zab hHeld S11.out)
     have R12:=hid (R11.out.bel hHeld)
     have P12:=hid (P11.out.bel hHeld)
     have Q12:=hid (Q11.out.bel hHeld)
     have H12:=hid (H11.out.bel hHeld (Vx4 hlow.out W11.out.size))
     have W12:=hid (W11.out.trans (hHeld.mono W11.out.size))
     have O12:=hid (O11.out.bel hHeld)
     have U12:=hid (Zab hHeld U11.out)
     have I12:=hid (I11.out.bel hHeld)
     have J12:=hid (J11.out.bel hHeld)
     have K12:=hid (K11.out.bel hHeld)
     have E12:=hid (E11.out.bel hHeld)
     have F12:=hid (F11.out.bel hHeld)
     have L12:=hid (L11.out.bel hHeld)
     clear T11 N11 B11 S11 R11 P11 Q11 H11 W11 O11 U11 I11 J11 K11 E11 F11 L11
     have D12:=hid (Zae (l:=[Value.slice ad4 ns.length cd4,.int .i64 root]) d6)
     clear hHeld d6 hG b6 hB e6
     go_wp2_with (first
      |(with_reducible refine lDr D12.out hiQ.out hut ?_)
      |(with_reducible refine lDr T12.out.all hiT.out hut ?_))
     refine(hS2.out _ _ E12.out R12.out).mono ?_
     rintro e w13 ⟨rfl,hb⟩
     have T13:=hid (T12.out.bel hb)
     have N13:=hid (Zab hb N12.out)
     have B13:=hid (Zab hb B12.out)
     have S13:=hid (Zab hb S12.out)
     have R13:=hid (R12.out.bel hb)
     have P13:=hid (P12.out.bel hb)
     have Q13:=hid (Q12.out.bel hb)
     have H13:=hid (H12.out.bel hb (Vx4 hlow.out W12.out.size))
     have W13:=hid (W12.out.trans (hb.mono W12.out.size))
     have O13:=hid (O12.out.bel hb)
     have U13:=hid (Zab hb U12.out)
     have I13:=hid (I12.out.bel hb)
     have J13:=hid (J12.out.bel hb)
     have K13:=hid (K12.out.bel hb)
     have E13:=hid (E12.out.bel hb)
     have F13:=hid (F12.out.bel hb)
     have L13:=hid (L12.out.bel hb)
     have D13:=hid (Zab hb D12.out)
     clear T12 N12 B12 S12 R12 P12 Q12 H12 W12 O12 U12 I12 J12 K12 E12 F12 L12 D12
     clear hb hS2
     go_wp2_with ((with_reducible refine lDr F13.out.all hiF.out hut ?_))
     refine(hA.out _ _ E13.out).mono ?_
     rintro e w14 ⟨A14,c14,rfl,ho14,hb⟩
     have T14:=hid (T13.out.bel hb)
     have N14:=hid (Zab hb N13.out)
     have B14:=hid (Zab hb B13.out)
     have S14:=hid (Zab hb S13.out)
     have R14:=hid (R13.out.bel hb)
     have P14:=hid (P13.out.bel hb)
     have Q14:=hid (Q13.out.bel hb)
     have H14:=hid (H13.out.bel hb (Vx4 hlow.out W13.out.size))
     have W14:=hid (W13.out.trans (hb.mono W13.out.size))
     have O14:=hid (O13.out.bel hb)
     have U14:=hid (Zab hb U13.out)
     have I14:=hid (I13.out.bel hb)
     have J14:=hid (J13.out.bel hb)
     have K14:=hid (K13.out.bel hb)
     have E14:=hid (E13.out.bel hb)
     have F14:=hid (F13.out.bel hb)
     have L14:=hid (L13.out.bel hb)
     have D14:=hid (Zab hb D13.out)
     clear T13 N13 B13 S13 R13 P13 Q13 H13 W13 O13 U13 I13 J13 K13 E13 F13 L13 D13
     have Z14:=hid (OwnR.row ho14)
     clear hb ho14
     go_wp2_with fail
     refine(hSp.out _ _ A14 c14 _ Z14.out L14.out).mono ?_
     rintro e w15 ⟨rfl,hb⟩
     go_wp2
     go_ret
     exact⟨rfl,W14.out.trans (hb.mono W14.out.size)⟩
end Go.Proofs.YtomhoehlgagiiaaGreatDoor.blockApplies
