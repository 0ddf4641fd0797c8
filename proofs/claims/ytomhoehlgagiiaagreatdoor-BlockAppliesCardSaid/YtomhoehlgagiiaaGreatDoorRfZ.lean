import Derived.Test.YtomhoehlgagiiaaGreatDoorRf6
import Derived.Test.YtomhoehlgagiiaaGreatDoorRefF
import Derived.Test.YtomhoehlgagiiaaGreatDoorTrD
set_option maxRecDepth 100000
set_option linter.all false
namespace Go.Proofs.YtomhoehlgagiiaaGreatDoor
open Go.RowKit
theorem Ygb(w:World)(A D:Option Addr)(n c d:Nat)(root:Int):
  BoxT ((w.alloc (.cells #[.slice A n c,.int .i64 root] 24)).alloc (.cells #[.slice D n d,.int .i64 root] 24)) w.heap.size A n c root∧
  BoxT ((w.alloc (.cells #[.slice A n c,.int .i64 root] 24)).alloc (.cells #[.slice D n d,.int .i64 root] 24)) (w.heap.size+1) D n d root∧
  Below w.heap.size w ((w.alloc (.cells #[.slice A n c,.int .i64 root] 24)).alloc (.cells #[.slice D n d,.int .i64 root] 24)):=by
 have h2:=BoxT.new (w.alloc (.cells #[.slice A n c,.int .i64 root] 24)) D n d root 24
 rw[Vx2]at h2
 exact⟨(BoxT.new w A n c root _).bel (Zad _ _),h2,Zag (Zad _ _) (Zad _ _)⟩
set_option maxHeartbeats 2000000 in
theorem ZcJ(F G:Nat→Prop)(A D:Option Addr)(c d:Nat)(ns:List Nd)(root:Int)(w:World)(hr:Row F w A ns)(hs:Row G w D ns)(hc:ns.length≤9223372036854775807):
  Calls Tryz.prog 22 #[.agg #[.slice A ns.length c,.int .i64 root],.agg #[.slice D ns.length d,.int .i64 root]] w fun e w'=>e=.returned (.bool true)∧Below w.heap.size w w':=by
 obtain⟨T1,T2,W0⟩:=Ygb w A D ns.length c d root
 have hr0:=hr.bel W0
 have hs0:=hs.bel W0
 have y1:=T1.ns
 have y2:=T2.ns
 have y3:=T1.rt
 have y4:=T2.rt
 have hun:=Tryz.underlying124
 have hu:=Tryz.underlying26
 have e1:(root !=root)=false:=by simp
 clear hr hs
 go_enter Tryz.func22,Tryz.ntmps22
 go_wp2
 generalize (w.alloc (.cells #[.slice A ns.length c,.int .i64 root] 24)).alloc (.cells #[.slice D ns.length d,.int .i64 root] 24)=w0 at *
 clear y1 y2 y3 y4
 go_loopw [5] (fun i wr=>∃j:Nat,j≤ns.length∧i=.int .i64 j∧Below w0.heap.size w0 wr) (fun i _=>ns.length-(intOf i).toNat)
 case atStart=>exact⟨0,Nat.zero_le _,rfl,Below.refl _ _⟩
 case round=>
  obtain⟨j,hj,rfl,hb⟩:=hrel
  have y1:=(T1.bel hb).ns
  have y2:=(T2.bel hb).ns
  by_cases hlt:j<ns.length
  ·obtain⟨q,o,hA,A1,c1,hR1,hv1,hm1,ha1,hI1,hI2⟩:=Zb7 (hr0.bel hb) hlt
   obtain⟨q2,o2,hD,A2,c2,hR2,hv2,hm2,ha2,-,-⟩:=Zb7 (hs0.bel hb) hlt
   subst hA hD
   have hi1:=hid (show (Tryz.prog.info? 124).map (·.size)=some (ndC ns[j] A1 c1).length by rw[ZaG];exact Zbd)
   have hi2:=hid (show (Tryz.prog.info? 124).map (·.size)=some (ndC ns[j] A2 c2).length by rw[ZaG];exact Zbd)
   have hs1:=hid (show (Tryz.prog.info? 124).map (·.size)=some (ndC ns[j] A1 c1).toArray.size by rw[Vx7,ZaG];exact Zbd)
   have hs2:=hid (show (Tryz.prog.info? 124).map (·.size)=some (ndC ns[j] A2 c2).toArray.size by rw[Vx7,ZaG];exact Zbd)
   have hz1:=hid (show zNdC.size=(ndC ns[j] A1 c1).toArray.size by rw[ZbY,Vx7,ZaG])
   have hz2:=hid (show zNdC.size=(ndC ns[j] A2 c2).toArray.size by rw[ZbY,Vx7,ZaG])
   have ho1:=hid (ZcZ ns[j] A1 c1)
   have ho2:=hid (ZcZ ns[j] A2 c2)
   have rd1:=hid ha1.rd
   have rd2:=hid ha2.rd
   have hB1:=hid (fun (W:World) (g:Nat) (tt:TypeId) (h:W.heap[g]? =some (.cells (ndC ns[j] A1 c1).toArray tt (0,0)))=>BoxN.heap h)
   have hB2:=hid (fun (W:World) (g:Nat) (tt:TypeId) (h:W.heap[g]? =some (.cells (ndC ns[j] A2 c2).toArray tt (0,0)))=>BoxN.heap h)
   have hE:∀W,(Op.equalIn 10000 26 (.agg (ns[j].k.1.map bv).toArray) (.agg (ns[j].k.1.map bv).toArray)).run Tryz.prog W=.ok true W:=fun W=>ZaL ns[j].k ns[j].k true (Vy2 rfl) W
   have hik:=hid (Zaz ns[j].k)
   have e2:(ns[j].leaf !=ns[j].leaf)=false:=by simp
   have e3:(ns[j].l !=ns[j].l)=false:=by simp
   have e4:(ns[j].r !=ns[j].r)=false:=by simp
   replace hR1:=hid hR1
   replace hR2:=hid hR2
   clear hv1 hm1 ha1 hI1 hI2 hv2 hm2 ha2
   go_wp2
   focus
    refine rgB fun hHeld=>?_
    refine' tkP 0 rfl ?_
    refine' tkC 1 rfl y1 ?_
    refine' tkW 2 3 ?_
    simp only[sQ]
    refine' tkM 4 rfl (fun _ h=>Zab h hR1.out) hun hi1.out ?_
    refine' tkP 5 rfl ?_
    refine' tkC 6 rfl y2 ?_
    refine' tkP 7 rfl ?_
    simp only[sQ]
    refine' tkP 8 rfl ?_
    refine' tkM 9 rfl (fun _ h=>Zab h hR2.out) hun hi2.out ?_
    simp only[sQ]
    refine rdH2 10 11 rfl rfl (fun K hK=>?_) (fun K hK=>?_)
    focus
     refine Zar rfl 124 rfl zNdC Zbh ?_
     intro g6 w8 b6 e6 hB
     have m6:=Vx1 hHeld.size b6
     try have n67:g6≠g7:=fun h=>by have:=block_lt e7;omega
     try replace e7:=(hB.block _ (block_lt e7)).trans e7
     refine kB hK hHeld hB fun hHeld=>?_
     clear hK K
     try simp only[sQ]
     refine rdH 11 rfl fun K hK=>?_
     refine Zar rfl 124 rfl zNdC Zbh ?_
     intro g7 w8 b7 e7 hB
     have m7:=Vx1 hHeld.size b7
     try have n67:g6≠g7:=fun h=>by have:=block_lt e6;omega
     try replace e6:=(hB.block _ (block_lt e6)).trans e6
     refine kB hK hHeld hB fun hHeld=>?_
     clear hK K
     try simp only[sQ]
    rotate_left
    focus
     refine Zar rfl 124 rfl zNdC Zbh ?_
     intro g7 w8 b7 e7 hB
     have m7:=Vx1 hHeld.size b7
     try have n67:g6≠g7:=fun h=>by have:=block_lt e6;omega
     try replace e6:=(hB.block _ (block_lt e6)).trans e6
     refine kB hK hHeld hB fun hHeld=>?_
     clear hK K
     try simp only[sQ]
     refine rdH 10 rfl fun K hK=>?_
     refine Zar rfl 124 rfl zNdC Zbh ?_
     intro g6 w8 b6 e6 hB
     have m6:=Vx1 hHeld.size b6
     try have n67:g6≠g7:=fun h=>by have:=block_lt e7;omega
     try replace e7:=(hB.block _ (block_lt e7)).trans e7
     refine kB hK hHeld hB fun hHeld=>?_
     clear hK K
     try simp only[sQ]
    all_goals
     refine rdH 12 rfl fun K hK=>?_
     refine Zaj rfl 124 (.tmp 6) (.tmp 33) rfl g6 _ rfl rfl 124 zNdC e6 hs1.out hz1.out ho1.out ?_
     intro w8 d6 hG
     replace e7:=(hG.block _ (block_lt e7) (by simpa using n67.symm)).trans e7
     refine hK.out _ _ (hHeld.grown hG hHeld.size (by intro k hk;injection hk with hk;omega)) fun hHeld=>?_
     clear hK K
     try simp only[sQ]
     refine rdH 13 rfl fun K hK=>?_
     refine Zaj rfl 124 (.tmp 7) (.tmp 38) rfl g7 _ rfl rfl 124 zNdC e7 hs2.out hz2.out ho2.out ?_
     intro w9 d7 hG
     replace d6:=(hG.block _ (block_lt d6) (by simpa using n67)).trans d6
     refine hK.out _ _ (hHeld.grown hG hHeld.size (by intro k hk;injection hk with hk;omega)) fun hHeld=>?_
     clear hK K
     try simp only[sQ]
     refine dnN ?_
     have N6:=hB1.out _ _ _ d6
     have N7:=hB2.out _ _ _ d7
     have u1:=N6.leaf
     have u2:=N7.leaf
     have u3:=N6.val
     have u4:=N7.val
     have u5:=N6.l
     have u6:=N7.l
     have u7:=N6.r
     have u8:=N7.r
     have k6:=hid N6.key
     have k7:=hid N7.key
     have p1:=hid (rd1.out.bel hHeld)
     have p2:=hid (rd2.out.bel hHeld)
     have W9:=hid (hb.trans (hHeld.mono hb.size))
     clear N6 N7 d6 d7 hHeld rd1 rd2 hB1 hB2 hR1 hR2 hb
     try clear hB
     try clear hG
     try clear e6 e7
     go_wp2_with (first
      |(with_reducible refine lDr k6.out hik.out hu ?_)
      |(with_reducible refine lDr k7.out hik.out hu ?_))
     refine(ZfX A1 A2 c1 c2 ns[j].v ns[j].v true _ p1.out p2.out (Vy2 rfl)).mono ?_
     rintro e w10 ⟨rfl,rfl⟩
     go_wp2
     go_roundw
     case rel=>exact⟨j+1,by omega,by go_num,W9.out⟩
     case measure=>simp[intOf];omega
  ·obtain rfl:j=ns.length:=by omega
   go_wp2
   go_ret
   exact⟨rfl,W0.trans (hb.mono W0.size)⟩
theorem ZhL{t:Tr}(h:mayT t=true):(∀ p∈allT t,p.v.length≤1000000)∧(allT t).length≤262144:=by
 obtain⟨_,h2,h3,_⟩:=Zbp h
 have h4:=(ZaX.1 h).1
 exact⟨fun p hp=>by have:=h2 p hp;unfold valB at this;simp at this;omega,by omega⟩
end Go.Proofs.YtomhoehlgagiiaaGreatDoor
