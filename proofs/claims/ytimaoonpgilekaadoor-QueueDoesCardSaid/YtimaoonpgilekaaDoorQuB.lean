import Derived.Test.YtimaoonpgilekaaDoorQuA
set_option linter.all false
set_option maxHeartbeats 4000000
namespace Go.Proofs.YtimaoonpgilekaaDoor
open Go.RowKit
set_option maxRecDepth 100000
theorem YpM{a b:Int}(h:a=b):Ending.returned (.int .i64 a)=.returned (.int .i64 b):=by rw[h]
theorem YpS{d:Dg}{xs:List Tx}(h:256<xs.length):checkL ⟨d,xs⟩=8:=by
 unfold checkL
 rw[if_neg]
 intro h2
 have h3:xs.length≤256:=(Yn2 h2).1
 omega
theorem Yqc{d:Dg}{xs:List Tx}(h:soB xs=false):checkL ⟨d,xs⟩=8:=by
 unfold checkL
 rw[if_neg]
 intro h2
 have h3:soB xs=true:=(Yn2 h2).2.1
 rw[h]at h3;cases h3
theorem YpY{d:Dg}{xs:List Tx}{j:Nat}(hj:j<xs.length)(h:ownX xs[j] d=false):checkL ⟨d,xs⟩=8:=by
 unfold checkL
 rw[if_neg]
 intro h2
 have h3:ownX xs[j] d=true:=(Yn2 h2).2.2 _ (List.getElem_mem hj)
 rw[h]at h3;cases h3
theorem YpZ{d:Dg}{xs:List Tx}(h1:¬256<xs.length)(h2:soB xs=true)(h3:(xs.all fun x=>ownX x d)=true):checkL ⟨d,xs⟩=0:=by
 unfold checkL
 rw[if_pos]
 exact Yoq (by show xs.length≤256;omega) h2 (List.all_eq_true.1 h3)
theorem Yp8{xs:List Tx}{d:Dg}{j:Nat}(hj:j<xs.length)(h:((xs.take j).all fun x=>ownX x d)=true)(h2:ownX xs[j] d=true):((xs.take (j+1)).all fun x=>ownX x d)=true:=by
 rw[Vy5 hj,List.all_append,h]
 simp[h2]
theorem Ypb(F:Nat→Prop)(d:Dg)(A:Option Addr)(c:Nat)(xs:List Tx)(w:World)(hr:Row F w A xs)(hc:xs.length≤1000000)(hT:Tab w):
  Calls Tryd.prog 14 #[.agg (lnC d A xs.length c).toArray] w fun e w'=>e=.returned (.int .i64 (checkL ⟨d,xs⟩))∧Below w.heap.size w w':=by
 obtain⟨ck,hck⟩:∃k,checkL ⟨d,xs⟩=k:=⟨_,rfl⟩
 have K1:=hid (fun h=>hck.symm.trans (YpS (d:=d) (xs:=xs) h))
 have K2:=hid (fun h=>hck.symm.trans (Yqc (d:=d) (xs:=xs) h))
 have K3:=hid (fun j (hj:j<xs.length) h=>hck.symm.trans (YpY (d:=d) hj h))
 have K4:=hid (fun h1 h2 h3=>hck.symm.trans (YpZ (d:=d) (xs:=xs) h1 h2 h3))
 rw[hck]
 have hu:=Tryd.underlying23
 have hux:=Tryd.underlying33
 have hul:=Tryd.underlying26
 have B:=BoxL.new w d A xs.length c 26
 have W0:=hid (Zad w (.cells (lnC d A xs.length c).toArray 26))
 have R0:=hid (hr.bel W0.out)
 have T0:=hid (hT.bel W0.out hT.low)
 have hlow:=hid T0.out.low
 have hL:=hid B.all
 have hD:=hid B.d
 have c0:=B.x
 have jl:=hid (YoL d A xs.length c)
 have jd:=hid (ZaF d)
 have hBy:=hid (fun W=>Ypm d A xs.length c W)
 have hSo:=hid (fun W (h:Row F W A xs)=>YpV F A c xs W h hc)
 have hown:=hid (fun (x:Tx) (hx:x.ok) W hW=>YpG d x hx W hW)
 clear hck hr hT B
 obtain⟨own,ho⟩:∃f:Tx→Bool,(fun x=>ownX x d)=f:=⟨_,rfl⟩
 have ho2:∀x,ownX x d=own x:=fun x=>congrFun ho x
 have htk:=hid (fun (j:Nat) (hj:j<xs.length)=>Yp8 (xs:=xs) (d:=d) hj)
 simp only[ho2]at K3 K4 hown htk
 clear ho ho2
 generalize lnC d A xs.length c=cl at *
 generalize d.1.map bv=cd at *
 go_enter Tryd.func14,Tryd.ntmps14
 by_cases hlong:256<xs.length
 ·have e1:=hid (K1.out hlong)
  have hw:(256:Int)<(xs.length:Int):=by omega
  go_wp2
  go_ret
  exact⟨YpM e1.out.symm,W0.out⟩
 ·have hw:¬(256:Int)<(xs.length:Int):=by omega
  replace K4:=hid (K4.out hlong)
  clear K1 hlong
  go_wp2_with ((with_reducible refine lDr hL.out jl.out hul ?_))
  generalize w.alloc (.cells cl.toArray 26)=w0 at *
  refine(hBy.out _).mono ?_
  rintro e w1 ⟨rfl,hB1⟩
  have R1:=hid (R0.out.bel hB1)
  go_wp2_with fail
  refine(hSo.out _ R1.out).mono ?_
  rintro e w2 ⟨rfl,hB2⟩
  have W2:=hid (hB1.trans (hB2.mono hB1.size))
  have c2:=(W2.out.cell (Vx5 _ _ c0)).trans c0
  clear hB1 hB2 R1 hBy hSo
  obtain⟨so,hso⟩:∃s,soB xs=s:=⟨_,rfl⟩
  rw[hso]at K2 K4 ⊢
  cases so
  ·have e1:=hid (K2.out rfl)
   go_wp2
   go_ret
   exact⟨YpM e1.out.symm,W0.out.trans (W2.out.mono W0.out.size)⟩
  ·replace K4:=hid (K4.out rfl)
   clear K2 hso
   go_wp2
   go_loopw [18] (fun i wr=>∃j:Nat,j≤xs.length∧i=.int .i64 j∧(xs.take j).all own=true∧Below w0.heap.size w0 wr) (fun i _=>xs.length-(intOf i).toNat)
   case atStart=>exact⟨0,Nat.zero_le _,rfl,rfl,W2.out⟩
   case round=>
    obtain⟨j,hj,rfl,hrel,hb⟩:=hrel
    by_cases hlt:j<xs.length
    ·have hlt2:(j:Int)<(xs.length:Int):=by omega
     obtain⟨b,o,hA,r1,m1⟩:=Yoa R0.out hlt
     subst hA
     have hO:=hid (fun W hW=>hown.out xs[j] m1 W hW)
     have K3j:=hid (fun h=>K3.out j hlt h)
     have hyes:=hid (fun h=>htk.out j hlt hrel h)
     have q1:=hid (Zab hb r1)
     have j1:=hid (Zby xs[j])
     have a1:=hid (Zb2 xs[j])
     have z1:=hid (ZcS xs[j])
     have n1:=hid (Zdw xs[j])
     have e0:=hid (Vx0 wr (.cells zTxC 33))
     have D1:=hid (Zab hb hD.out)
     have lt1:=hid (Vx4 (Vx5 _ _ c0) hb.size)
     replace hb:=hid hb
     replace hrel:=hid hrel
     clear m1 r1 c2
     generalize own xs[j]=q at *
     generalize txC xs[j]=d1 at *
     go_wp2_with (first
      |(with_reducible refine lDr q1.out j1.out hux ?_)
      |(with_reducible refine Zac rfl 33 rfl zTxC Zbv ?_)
      |((with_reducible refine stW 4 21 wr.heap.size 33 zTxC ?_ ?_ ?_ ?_ ?_);exact e0.out;exact a1.out;exact z1.out;exact n1.out;intro w5 hgS hbS hsS;have X5:=hid (Zan rfl hbS);have S5:=hid (Zae (l:=d1) hgS);have D5:=hid (Zab X5.out D1.out);have Y5:=hid (hb.out.trans (X5.out.mono hb.out.size));clear hgS hbS hsS)
      |(with_reducible refine lDr D5.out jd.out hu ?_)
      |(with_reducible refine lDr S5.out j1.out hux ?_))
     refine(hO.out _ (T0.out.bel Y5.out hlow.out)).mono ?_
     rintro e w6 ⟨rfl,hB6⟩
     have Y6:=hid (Y5.out.trans (hB6.mono Y5.out.size))
     cases q
     ·have e1:=hid (K3j.out rfl)
      go_wp2
      go_ret
      exact⟨YpM e1.out.symm,W0.out.trans (Y6.out.mono W0.out.size)⟩
     ·replace hyes:=hid (hyes.out rfl)
      go_wp2
      go_roundw
      case rel=>exact⟨j+1,by omega,by go_num,hyes.out,Y6.out⟩
      case measure=>simp[intOf];omega
    ·obtain rfl:j=xs.length:=by omega
     rw[List.take_length]at hrel
     have e1:=hid (K4.out hrel)
     replace hrel:=trivial
     go_wp2
     go_ret
     exact⟨YpM e1.out.symm,W0.out.trans (hb.mono W0.out.size)⟩
theorem Yqq(F G:Nat→Prop)(d d':Dg)(A A':Option Addr)(c c':Nat)(xs ys:List Tx)(w:World)(hr:Row F w A xs)(hs:Row G w A' ys)(hc:xs.length≤1000000)(hd:ys.length≤1000000):
  Calls Tryd.prog 22 #[.agg (lnC d A xs.length c).toArray,.agg (lnC d' A' ys.length c').toArray] w fun e w'=>e=.returned (.bool (sameL ⟨d,xs⟩ ⟨d',ys⟩))∧Below w.heap.size w w':=by
 obtain⟨b1,hb1⟩:∃b,decide (d=d')=b:=⟨_,rfl⟩
 obtain⟨b2,hb2⟩:∃b,decide (xs=ys)=b:=⟨_,rfl⟩
 have hv:sameL ⟨d,xs⟩ ⟨d',ys⟩=(b1&&b2):=by unfold sameL;rw[← hb1,←hb2]
 rw[hv]
 have hu:=Tryd.underlying23
 have B0:=BoxL.new w d A xs.length c 26
 have e2:=Zad (w.alloc (.cells (lnC d A xs.length c).toArray 26)) (.cells (lnC d' A' ys.length c').toArray 26)
 have B1:=BoxL.new (w.alloc (.cells (lnC d A xs.length c).toArray 26)) d' A' ys.length c' 26
 rw[Vx2]at B1
 replace B0:=B0.bel e2
 have W0:=hid (Zag (Zad w (.cells (lnC d A xs.length c).toArray 26)) e2)
 have D0:=hid B0.d
 have D1:=hid B1.d
 have c0:=B0.x
 have c1:=B1.x
 have R0:=hid (hr.bel W0.out)
 have S0:=hid (hs.bel W0.out)
 have jd:=hid (ZaF d)
 have jd2:=hid (ZaF d')
 have hEq:=hid (fun W (h:Row F W A xs) (k:Row G W A' ys)=>YoC F G A A' c c' xs ys W h k (by omega) (by omega))
 have hE:∀W,(Op.equalIn 10000 23 (.agg (d.1.map bv).toArray) (.agg (d'.1.map bv).toArray)).run Tryd.prog W=.ok b1 W:=fun W=>ZaL d d' b1 hb1 W
 rw[hb2]at hEq
 clear hb1 hb2 hv B0 B1 e2 hr hs
 generalize lnC d A xs.length c=cl at *
 generalize lnC d' A' ys.length c'=cm at *
 generalize d.1.map bv=cd at *
 generalize d'.1.map bv=ce at *
 cases b1
 ·go_enter Tryd.func22,Tryd.ntmps22
  go_wp2_with (first
   |(with_reducible refine lDr D0.out jd.out hu ?_)
   |(with_reducible refine lDr D1.out jd2.out hu ?_))
  go_ret
  exact⟨rfl,W0.out⟩
 ·go_enter Tryd.func22,Tryd.ntmps22
  go_wp2_with (first
   |(with_reducible refine lDr D0.out jd.out hu ?_)
   |(with_reducible refine lDr D1.out jd2.out hu ?_))
  refine(hEq.out _ R0.out S0.out).mono ?_
  rintro e w1 ⟨rfl,hB⟩
  go_wp2
  go_ret
  exact⟨rfl,W0.out.trans (hB.mono W0.out.size)⟩
theorem YpJ(F:Nat→Prop)(d:Dg)(A:Option Addr)(c:Nat)(xs:List Tx)(w:World)(hr:Row F w A xs)(hc:xs.length≤1000000):
  Calls Tryd.prog 23 #[.agg (lnC d A xs.length c).toArray] w fun e w'=>∃A' c',e=.returned (.agg (lnC d A' xs.length c').toArray)∧OwnR 33 w' w.heap.size A' c' xs∧Below w.heap.size w w':=by
 have hul:=Tryd.underlying26
 have e1:=Zad w (.cells (lnC d A xs.length c).toArray 26)
 have e2:=Zad (w.alloc (.cells (lnC d A xs.length c).toArray 26)) (.cells zLnC 26)
 have z0:=Vx0 w (.cells (lnC d A xs.length c).toArray 26)
 replace z0:=(e2.block _ (block_lt z0)).trans z0
 have z1:=Vx0 (w.alloc (.cells (lnC d A xs.length c).toArray 26)) (.cells zLnC 26)
 have s2:((w.alloc (.cells (lnC d A xs.length c).toArray 26)).alloc (.cells zLnC 26)).heap.size=w.heap.size+1+1:=by simp only[Vx2]
 rw[Vx2]at z1
 have W0:=hid (Zag e1 e2)
 have c0:=(BoxL.of (Zae z0)).x
 have R0:=hid (hr.bel W0.out)
 have hC:=hid (fun W (h:Row F W A xs)=>Yow F A c xs W h hc)
 have jl:=hid (fun A c=>YoL d A xs.length c)
 have zl:=hid (fun A c=>YoY d A xs.length c)
 have ol:=hid (fun A c=>YoZ d A xs.length c)
 have hset:=hid (fun (w:World) (g:Nat) (A:Option Addr) (c:Nat) (h:w.heap[g]? =some (.cells (lnC d A xs.length c).toArray 26 (0,0))) (A':Option Addr) (c':Nat)=>YqF h A' xs.length c')
 have hbx:=hid (fun (w:World) (g:Nat) (A:Option Addr) (c:Nat) (h:w.heap[g]? =some (.cells (lnC d A xs.length c).toArray 26 (0,0)))=>(BoxL.of (Zae h)).x)
 replace z0:=hid z0
 replace z1:=hid z1
 replace s2:=hid s2
 clear e1 e2 hr
 generalize xs.length=n at *
 go_enter Tryd.func23,Tryd.ntmps23
 go_wp2_with ((with_reducible refine Zac rfl 26 rfl zLnC YoX ?_))
 refine(hC.out _ R0.out).mono ?_
 rintro e w3 ⟨A3,c3,rfl,o3,hb3⟩
 have z03:=(hb3.block _ (block_lt z0.out)).trans z0.out
 have z13:=(hb3.block _ (block_lt z1.out)).trans z1.out
 have F3:=Zap z03 32
 have cc3:=hbx.out _ _ _ _ z03
 have z04:=hset.out _ _ _ _ z03 A3 c3
 have r04:=hid (Zae z04)
 have z14:=hid ((Vy3 w3 ⟨w.heap.size,32,none⟩ (.slice A3 n c3) (w.heap.size+1) (show w.heap.size+1≠w.heap.size by omega)).trans z13)
 have B4:=hid ((W0.out.trans (hb3.mono W0.out.size)).setCell (p:=⟨w.heap.size,32,none⟩) (Vx8 _) (.slice A3 n c3))
 have O4:=hid (OwnQ.keptL (g:=w.heap.size) o3 (fun b _ hne=>Vy3 w3 ⟨w.heap.size,32,none⟩ (.slice A3 n c3) b hne) (by rw[s2.out];omega) (by rw[s2.out];omega))
 clear z03 z13 z04 o3 hb3
 go_wp2_with (first
  |(with_reducible refine lDr r04.out (jl.out _ _) hul ?_)
  |((with_reducible refine stW 2 7 (w.heap.size+1) 26 zLnC ?_ ?_ ?_ ?_ ?_);exact z14.out;exact jl.out _ _;exact zl.out _ _;exact ol.out _ _;intro w6 hg6 hb6 hs6))
 refine Vy0 (v:=.agg (lnC d A3 n c3).toArray) ?_ rfl ⟨A3,c3,rfl,?_,?_⟩
 ·exact results_cell_row Tryd.results23 _ _ (w.heap.size+1) 26 _ (0,0) _ rfl hg6 hul rfl (jl.out _ _)
 ·exact OwnR.base (OwnQ.keptL O4.out (fun b hl hne=>hb6.block b hl (fun e=>hne (by injection e))) (by rw[s2.out];omega) (by rw[s2.out];omega)) (by rw[s2.out];omega)
 ·exact B4.out.grown hb6 B4.out.size (fun g e=>by injection e with e;omega)
end Go.Proofs.YtimaoonpgilekaaDoor
