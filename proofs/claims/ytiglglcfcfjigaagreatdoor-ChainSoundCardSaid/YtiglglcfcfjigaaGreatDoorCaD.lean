import Derived.Test.YtiglglcfcfjigaaGreatDoorCaB
set_option maxRecDepth 100000
set_option linter.all false
namespace Go.Proofs.YtiglglcfcfjigaaGreatDoor
open Go.RowKit
def atE(t:Tr)(r:Int):Int:=if mayT t=true then (if mayT ⟨t.ns,r⟩=true then 0 else 2) else 8
def atT(t:Tr)(r:Int):Tr:=if atE t r=0 then ⟨t.ns,r⟩ else ⟨[],0⟩
def greatK(x:Lk):Bool:=greatB x.ds.length x.xs.length||decide (40<x.rs.length)
def greatC(c:Ch)(n:Nat):Bool:=greatT c.t.ns 900||(decide (n<c.ls.length)||c.ls.any greatK)
theorem Ylg{n m:Nat}(h:greatB n m=false):n≤20∧m≤20:=by
 unfold greatB at h
 rw[Bool.or_eq_false_iff]at h
 unfold bigB at h
 simp only[Bool.or_eq_false_iff,Bool.and_eq_false_iff,decide_eq_false_iff_not]at h
 omega
theorem Ynb{c:Ch}{n:Nat}(h:greatC c n=false)(hn:n≤100):ChB 900 c∧c.ls.length≤n∧∀x∈c.ls,x.ds.length≤20∧x.xs.length≤20∧x.rs.length≤40:=by
 unfold greatC at h
 simp only[Bool.or_eq_false_iff,decide_eq_false_iff_not]at h
 obtain⟨h1,h2,h3⟩:=h
 have hk:∀x∈c.ls,x.ds.length≤20∧x.xs.length≤20∧x.rs.length≤40:=fun x hx=>by
  have:=(List.any_eq_false.1 h3) x hx
  rw[Bool.not_eq_true]at this
  unfold greatK at this
  simp only[Bool.or_eq_false_iff,decide_eq_false_iff_not]at this
  have hb:=Ylg this.1
  omega
 unfold greatT at h1
 simp only[Bool.or_eq_false_iff,decide_eq_false_iff_not]at h1
 exact⟨⟨by omega,by omega,fun x hx=>by have:=hk x hx;omega⟩,by omega,hk⟩
theorem YmL{ls:List Lk}{j:Nat}(hj:j<ls.length)(h:(ls.take j).any greatK=false):(ls.take (j+1)).any greatK=greatK ls[j]:=by
 rw[Vy5 hj,List.any_append,h]
 simp
theorem Ym6{ls:List Lk}{j:Nat}(hj:j<ls.length)(h:greatK ls[j]=true):ls.any greatK=true:=List.any_eq_true.2 ⟨_,List.getElem_mem hj,h⟩
set_option maxHeartbeats 4000000 in
theorem Ylz(F:Nat→Prop)(c:Ch)(s:ChS)(n:Nat)(w:World)(h:ChIn F w c s)(hc:c.t.ns.length≤9223372036854775807)(hl:c.ls.length≤9223372036854775807):
  Calls Tryz.prog 15 #[.agg (chV c s).toArray,.int .i64 (n:Int)] w fun e w'=>e=.returned (.bool (greatC c n))∧Below w.heap.size w w':=by
 obtain⟨A,k,L,m⟩:=s
 have hut:=Tryz.underlying24
 have hub:=Tryz.underlying35
 have W0:=Zad w (.cells (chV c ⟨A,k,L,m⟩).toArray 27)
 have B0:=BoxC.new w A c.t.ns.length k c.t.root L c.ls.length m 27
 have hiT:=hid (show (Tryz.prog.info? 24).map (·.size)=some ([Value.slice A c.t.ns.length k,.int .i64 c.t.root]).length from Zah)
 have I0:=h.bel W0
 have y0:=hid (show (w.alloc (.cells (chV c ⟨A,k,L,m⟩).toArray 27)).rangeAt w.heap.size 0 [Value.slice A c.t.ns.length k,.int .i64 c.t.root] from B0.t)
 have B0':=hid (show BoxC (w.alloc (.cells (chV c ⟨A,k,L,m⟩).toArray 27)) w.heap.size A c.t.ns.length k c.t.root L c.ls.length m from B0)
 have hG:=hid (fun W hW=>ZaY F A k 900 c.t.ns c.t.root W hW hc)
 have R0:=hid I0.ns
 have L0:=hid I0.ls
 obtain⟨ans,hans⟩:∃v,greatC c n=v:=⟨_,rfl⟩
 rw[hans]
 unfold greatC at hans
 generalize greatT c.t.ns 900=g1 at *
 obtain⟨g2,hg2⟩:∃v,decide (n<c.ls.length)=v:=⟨_,rfl⟩
 rw[hg2]at hans
 have q2:decide ((c.ls.length:Int)>(n:Int))=g2:=by rw[← hg2,decide_eq_decide];omega
 replace hans:=hid hans
 replace W0:=hid W0
 clear h I0 B0 hc
 go_enter Tryz.func15,Tryz.ntmps15
 go_wp2_with ((with_reducible refine lDr y0.out hiT.out hut ?_))
 generalize w.alloc (.cells (chV c ⟨A,k,L,m⟩).toArray 27)=w0 at *
 refine(hG.out _ R0.out).mono ?_
 rintro e w1 ⟨rfl,hB⟩
 have L1:=hid (L0.out.bel hB)
 have B1:=hid (B0'.out.bel hB)
 have W1:=hid (W0.out.trans (hB.mono W0.out.size))
 have l1:=B1.out.ls
 clear hB hG R0 L0 B0' W0 y0
 cases g1 with
 |true=>
  have e1:=hid (show ans=true by rw[← hans.out];rfl)
  go_wp2
  go_ret
  exact⟨by rw[e1.out];rfl,W1.out⟩
 |false=>
  cases g2 with
  |true=>
   have e1:=hid (show ans=true by rw[← hans.out];rfl)
   go_wp2
   go_ret
   exact⟨by rw[e1.out];rfl,W1.out⟩
  |false=>
   have e9:=hid (show ans=c.ls.any greatK by rw[← hans.out];rfl)
   clear hans
   go_wp2
   go_loopw [5] (fun i wr=>∃j:Nat,j≤c.ls.length∧i=.int .i64 j∧(c.ls.take j).any greatK=false∧Below w1.heap.size w1 wr) (fun i _=>c.ls.length-(intOf i).toNat)
   case atStart=>exact⟨0,Nat.zero_le _,rfl,rfl,Below.refl _ _⟩
   case round=>
    obtain⟨j,hj,rfl,hrel,hb⟩:=hrel
    have l2:=(B1.out.bel hb).ls
    by_cases hlt:j<c.ls.length
    ·have hlt2:(j:Int)<(c.ls.length:Int):=by omega
     obtain⟨b,o,hA,s9,lk9,ok9⟩:=YkS (L1.out.bel hb) hlt
     subst hA
     have r9:=hid lk9.bd
     have hRk:=lk9
     have hGb:=hid (fun W=>Zgi s9.D s9.d (c.ls[j]).ds.length s9.X s9.e (c.ls[j]).xs.length W)
     have hw2:=hid (fun hq:(greatB (c.ls[j]).ds.length (c.ls[j]).xs.length||decide (40<(c.ls[j]).rs.length))=false=>(YmL hlt hrel).trans (show greatK c.ls[j]=false from hq))
     have hw3:=hid (fun hq:(greatB (c.ls[j]).ds.length (c.ls[j]).xs.length||decide (40<(c.ls[j]).rs.length))=true=>Ym6 hlt (show greatK c.ls[j]=true from hq))
     replace hRk:=hid hRk
     have l2':=hid ((B1.out.bel hb).ls)
     generalize c.ls[j]=x at *
     generalize greatB x.ds.length x.xs.length=p1 at *
     obtain⟨p2,hp2⟩:∃v,decide (40<x.rs.length)=v:=⟨_,rfl⟩
     rw[hp2]at hw2 hw3
     have q3:decide ((x.rs.length:Int)>40)=p2:=by rw[← hp2,decide_eq_decide];omega
     replace hp2:=hid hp2
     replace hb:=hid hb
     replace hrel:=hid hrel
     clear lk9 ok9
     go_wp2_with ((with_reducible refine lDr r9.out (ZfA _ _) hub ?_))
     refine(hGb.out _).mono ?_
     rintro e w3 ⟨rfl,hB⟩
     have Y3:=hid (hb.out.trans (hB.mono hb.out.size))
     have l3:=(B1.out.bel Y3.out).ls
     have rR:=(hRk.out.bel hB).R
     cases p1 with
     |true=>
      have e3:=hid (hw3.out rfl)
      clear l3 rR hw2 hw3
      go_wp2
      go_ret
      exact⟨by rw[e9.out,e3.out];rfl,W1.out.trans (Y3.out.mono W1.out.size)⟩
     |false=>
      cases p2 with
      |true=>
       have e3:=hid (hw3.out rfl)
       clear hw2 hw3
       go_wp2
       go_ret
       exact⟨by rw[e9.out,e3.out];rfl,W1.out.trans (Y3.out.mono W1.out.size)⟩
      |false=>
       have e3:=hid (hw2.out rfl)
       clear hw2 hw3
       go_wp2
       go_roundw
       case rel=>exact⟨j+1,by omega,by go_num,e3.out,Y3.out⟩
       case measure=>simp[intOf];omega
    ·obtain rfl:j=c.ls.length:=by omega
     rw[List.take_length]at hrel
     replace hrel:=hid hrel
     go_wp2
     go_ret
     exact⟨by rw[e9.out,hrel.out];rfl,W1.out.trans (hb.mono W1.out.size)⟩
end Go.Proofs.YtiglglcfcfjigaaGreatDoor
