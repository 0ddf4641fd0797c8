import Derived.Test.YtimaoonpgilekaaDoorRef19b
import Derived.Test.YtimaoonpgilekaaDoorAlive19
set_option linter.all false
set_option maxHeartbeats 4000000
namespace Go.Proofs.YtimaoonpgilekaaDoor
open Go.RowKit
set_option maxRecDepth 100000
theorem RTwinLn_any(F:Nat→Prop)(d:Dg)(A:Option Addr)(c:Nat)(xs:List Tx)(w:World)(hr:Row F w A xs)(hc:xs.length≤1000000):
  Calls Tryd.prog 15 #[.agg (lnC d A xs.length c).toArray] w fun e w'=>∃A' c',e=.returned (.agg (lnC d A' xs.length c').toArray)∧OwnR 33 w' w.heap.size A' c' xs∧Below w.heap.size w w':=by
 have hul:=Tryd.underlying26
 have hu:=Tryd.underlying23
 have e1:=Zad w (.cells (lnC d A xs.length c).toArray 26)
 have e2:=Zad (w.alloc (.cells (lnC d A xs.length c).toArray 26)) (.cells zLnC 26)
 have e3:=Zad ((w.alloc (.cells (lnC d A xs.length c).toArray 26)).alloc (.cells zLnC 26)) (.cells zLnC 26)
 have z0:=Vx0 w (.cells (lnC d A xs.length c).toArray 26)
 replace z0:=(e2.block _ (block_lt z0)).trans z0
 have D0:=hid (BoxL.of (Zae z0)).d
 replace z0:=(e3.block _ (block_lt z0)).trans z0
 have z1:=Vx0 (w.alloc (.cells (lnC d A xs.length c).toArray 26)) (.cells zLnC 26)
 replace z1:=(e3.block _ (block_lt z1)).trans z1
 have z2:=Vx0 ((w.alloc (.cells (lnC d A xs.length c).toArray 26)).alloc (.cells zLnC 26)) (.cells zLnC 26)
 have s3:(((w.alloc (.cells (lnC d A xs.length c).toArray 26)).alloc (.cells zLnC 26)).alloc (.cells zLnC 26)).heap.size=w.heap.size+1+1+1:=by simp only[Vx2]
 rw[Vx2]at z1
 have W0:=hid (Zag (Zag e1 e2) e3)
 have R:=hid hr
 have jd:=hid (ZaF d)
 have jl:=hid (fun A n c=>YoL d A n c)
 have zl:=hid (fun A n c=>YoY d A n c)
 have ol:=hid (fun A n c=>YoZ d A n c)
 have bf:=hid (YoG d)
 have hbx:=hid (fun (W:World) (g:Nat) A n c (h:W.heap[g]? =some (.cells (lnC d A n c).toArray 26 (0,0)))=>(BoxL.of (Zae h)).x)
 have hset:=hid (fun (W:World) (g:Nat) A n c (h:W.heap[g]? =some (.cells (lnC d A n c).toArray 26 (0,0))) A' n' c'=>YqF h A' n' c')
 have hx0:=hid (fun (W:World) (h:W.heap[w.heap.size]? =some (.cells (lnC d A xs.length c).toArray 26 (0,0)))=>(BoxL.of (Zae h)).x)
 replace z0:=hid z0
 replace z1:=hid z1
 replace z2:=hid z2
 replace s3:=hid s3
 have hc2:=hid (show (0+xs.length) * (120+1)≤140737488355328 by omega)
 clear e1 e2 e3 hr
 generalize d.1.map bv=cd at *
 obtain⟨cl,hcl⟩:∃l,lnC d A xs.length c=l:=⟨_,rfl⟩
 rw[hcl]at D0 z0 z1 z2 s3 W0 hx0 ⊢
 go_enter Tryd.func15,Tryd.ntmps15
 go_wp2_with (first
  |(with_reducible refine Zac rfl 26 rfl zLnC YoX ?_)
  |(with_reducible refine lDr D0.out jd.out hu ?_)
  |((with_reducible refine Zaf rfl 26 _ rfl (lnC d none 0 0).toArray [(0,.agg cd.toArray)] ?_ ?_ ?_);exact bf.out;rfl)
  |((with_reducible refine wpList_store_row rfl 26 (.tmp 3) (.tmp 6) rfl _ (lnC d none 0 0).toArray rfl rfl 26 zLnC ?_ ?_ ?_ ?_ ?_);exact z2.out;exact jl.out _ _ _;exact zl.out _ _ _;exact ol.out _ _ _;intro w4 hg4 hb4 hs4;simp only[Vx2]at hg4 hb4;have X4:=hid (W0.out.grown hb4 W0.out.size (fun g e=>by injection e with e;omega));have c04:=hx0.out _ ((hb4.block _ (block_lt z0.out) (by first|(simp;done)|(simp;omega))).trans z0.out);have z14:=hid ((hb4.block _ (block_lt z1.out) (by first|(simp;done)|(simp;omega))).trans z1.out);have c34:=hbx.out _ _ _ _ _ hg4;have z34:=hid hg4;have R4:=hid (R.out.bel X4.out);have s4:=hid (show w.heap.size+1+1<w4.heap.size from block_lt hg4);clear hg4 hb4 hs4)
  |(at_builtin;refine ZbG slotTxQ rfl (.tmp 8) (.tmp 10) rfl w4.heap.size w4.heap.size none A 0 xs.length 0 c [] xs (fun _=>False) rfl rfl rfl rfl (OwnQ.nil _ _ _) (YoW R4.out) (fun b hb=>hb.elim) hc2.out (Vx8 _) ?_;intro A5 c5 w5 o5 hb5;rw[List.nil_append]at o5 ⊢;have z35:=(hb5.block _ (block_lt z34.out)).trans z34.out;have F5:=Zap z35 32;have cc5:=hbx.out _ _ _ _ _ z35;have z36:=hid (hset.out _ _ _ _ _ z35 A5 xs.length c5);have r36:=hid (Zae z36.out);have z16:=hid ((Vy3 w5 ⟨w.heap.size+1+1,32,none⟩ (.slice A5 xs.length c5) (w.heap.size+1) (show w.heap.size+1≠w.heap.size+1+1 by omega)).trans ((hb5.block _ (block_lt z14.out)).trans z14.out));have B6:=hid ((X4.out.trans (hb5.mono X4.out.size)).setCell (p:=⟨w.heap.size+1+1,32,none⟩) (show w.heap.size≤w.heap.size+1+1 by omega) (.slice A5 xs.length c5));have O6:=hid (OwnQ.keptL (g:=w.heap.size+1+1) o5 (fun b _ hne=>Vy3 w5 ⟨w.heap.size+1+1,32,none⟩ (.slice A5 xs.length c5) b hne) s4.out s4.out);clear z35 o5 hb5)
  |(with_reducible refine lDr r36.out (jl.out _ _ _) hul ?_)
  |((with_reducible refine stW 2 13 (w.heap.size+1) 26 zLnC ?_ ?_ ?_ ?_ ?_);exact z16.out;exact jl.out _ _ _;exact zl.out _ _ _;exact ol.out _ _ _;intro w8 hg8 hb8 hs8))
 refine Vy0 (v:=.agg (lnC d A5 xs.length c5).toArray) ?_ rfl ⟨A5,c5,rfl,?_,?_⟩
 ·exact results_cell_row Tryd.results15 _ _ (w.heap.size+1) 26 _ (0,0) _ rfl hg8 hul rfl (jl.out _ _ _)
 ·exact OwnR.base (OwnQ.keptL (g:=w.heap.size+1) O6.out (fun b hl hne=>hb8.block b hl (fun e=>hne (by injection e))) (by have:=s4.out;omega) (by have:=s4.out;omega)) (by have:=s4.out;omega)
 ·exact B6.out.grown hb8 B6.out.size (fun g e=>by injection e with e;omega)
def idxN(xs:List Tx)(n:Nat):Int:=if hasN xs n=true then (cntN xs n:Int) else -1
theorem idx_here{xs:List Tx}(hs:soB xs=true){n j:Nat}(hj:j<xs.length)(h:hitX (xs.take j) n=none)(h2:xs[j].n=n):idxN xs n=(j:Int):=by
 unfold idxN hasN
 rw[Yqd hj h h2]
 have e:cntN xs n=j:=Yog (by omega) (fun i hi=>by have:=Yn8 hs hj hi;omega) (fun _=>by omega)
 rw[e];rfl
theorem idx_none{xs:List Tx}{n:Nat}(h:hitX xs n=none):idxN xs n= -1:=by
 unfold idxN hasN
 rw[h];rfl
theorem RFindLn_any(F:Nat→Prop)(d:Dg)(A:Option Addr)(c n:Nat)(xs:List Tx)(w:World)(hr:Row F w A xs)(hs:soB xs=true)(hc:xs.length≤1000000):
  Calls Tryd.prog 39 #[.agg (lnC d A xs.length c).toArray,.int .u64 (n:Int)] w fun e w'=>e=.returned (.int .i64 (idxN xs n))∧Below w.heap.size w w':=by
 obtain⟨ix,hix⟩:∃i,idxN xs n=i:=⟨_,rfl⟩
 rw[hix]
 have K1:=hid (fun (j:Nat) (hj:j<xs.length) h h2=>hix.symm.trans (idx_here (n:=n) hs hj h h2))
 have K2:=hid (fun (h:hitX xs n=none)=>hix.symm.trans (idx_none h))
 have K3:=hid (fun (j:Nat) (hj:j<xs.length) h h2=>Yqe (n:=n) hj h h2)
 have W0:=hid (Zad w (.cells (lnC d A xs.length c).toArray 26))
 have c0:=(BoxL.new w d A xs.length c 26).x
 have R0:=hid (hr.bel W0.out)
 clear hr hix hs
 generalize lnC d A xs.length c=cl at *
 go_enter Tryd.func39,Tryd.ntmps39
 go_wp2
 generalize w.alloc (.cells cl.toArray 26)=w0 at *
 go_loopw [5] (fun i wr=>∃j:Nat,j≤xs.length∧i=.int .i64 j∧hitX (xs.take j) n=none∧wr=w0) (fun i _=>xs.length-(intOf i).toNat)
 case atStart=>exact⟨0,Nat.zero_le _,rfl,rfl,rfl⟩
 case round=>
  obtain⟨j,hj,rfl,hrel,rfl⟩:=hrel
  by_cases hlt:j<xs.length
  ·obtain⟨b,o,hA,r1,cn,m1⟩:=YpD R0.out hlt
   subst hA
   have K1j:=hid (K1.out j hlt hrel)
   have K3j:=hid (K3.out j hlt hrel)
   have hlt2:(j:Int)<(xs.length:Int):=by omega
   replace hrel:=hid hrel
   clear r1 m1
   by_cases heq:xs[j].n=n
   ·have e1:=K1j.out heq
    subst e1
    have hq:((xs[j].n:Int)==(n:Int))=true:=by rw[heq];simp
    clear K1j K3j heq K1 K3
    generalize xs[j].n=nj at *
    go_wp2
    go_ret
    exact⟨rfl,W0.out⟩
   ·have hq:((xs[j].n:Int)==(n:Int))=false:=beq_eq_false_iff_ne.2 (by omega)
    replace K3j:=hid (K3j.out heq)
    clear K1j heq
    generalize xs[j].n=nj at *
    go_wp2
    go_roundw
    case rel=>exact⟨j+1,by omega,by go_num,K3j.out,(by first|rfl|trivial)⟩
    case measure=>simp[intOf];omega
  ·obtain rfl:j=xs.length:=by omega
   rw[List.take_length]at hrel
   have e1:=K2.out hrel
   subst e1
   replace hrel:=trivial
   go_wp2
   go_ret
   exact⟨rfl,W0.out⟩
end Go.Proofs.YtimaoonpgilekaaDoor
