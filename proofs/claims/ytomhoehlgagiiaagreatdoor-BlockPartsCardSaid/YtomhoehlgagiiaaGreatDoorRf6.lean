import Derived.Test.YtomhoehlgagiiaaGreatDoorStX
import Derived.Test.YtomhoehlgagiiaaGreatDoorBits
import Derived.Test.YtomhoehlgagiiaaGreatDoorMem
import Derived.Test.YtomhoehlgagiiaaGreatDoorRefE
import Derived.Test.YtomhoehlgagiiaaGreatDoorPlain
import Derived.IntWalk
set_option maxRecDepth 100000
set_option linter.all false
namespace Go.Proofs.YtomhoehlgagiiaaGreatDoor
section
open Go.RowKit
def anyT(ns:List Nd):Bool:=ns.any fun x=>decide (100<x.v.length)
def greatT(ns:List Nd)(m:Nat):Bool:=anyT (ns.take (m+1))||decide (m<ns.length)
theorem Zyj{ns:List Nd}{j:Nat}(hj:j<ns.length):anyT (ns.take (j+1))=(anyT (ns.take j)||decide (100<ns[j].v.length)):=by
 unfold anyT
 rw[List.take_succ_eq_append_getElem hj,List.any_append]
 simp
theorem Zyi{ns:List Nd}{j m:Nat}(h:anyT (ns.take j)=true)(hj:j≤m):anyT (ns.take m)=true:=by
 unfold anyT at h ⊢
 rw[List.any_eq_true]at h ⊢
 obtain⟨x,h1,h2⟩:=h
 refine⟨x,?_,h2⟩
 rw[show ns.take j=(ns.take m).take j by rw[List.take_take,Nat.min_eq_left hj]]at h1
 exact List.mem_of_mem_take h1
theorem Zbi{ns:List Nd}{m:Nat}(h:greatT ns m=false):ns.length≤m∧∀x∈ns,x.v.length≤100:=by
 unfold greatT at h
 rw[Bool.or_eq_false_iff,decide_eq_false_iff_not]at h
 have hl:ns.length≤m:=by omega
 refine⟨hl,fun x hx=>?_⟩
 have h1:=h.1
 unfold anyT at h1
 rw[List.take_of_length_le (by omega),List.any_eq_false]at h1
 simpa using h1 x hx
set_option maxHeartbeats 1600000 in
theorem ZaY(F:Nat→Prop)(A:Option Addr)(c m:Nat)(ns:List Nd)(root:Int)(w:World)(hr:Row F w A ns)(hc:ns.length≤9223372036854775807):
  Calls Tryz.prog 16 #[.agg #[.slice A ns.length c,.int .i64 root],.int .i64 (m:Int)] w fun e w'=>e=.returned (.bool (greatT ns m))∧Below w.heap.size w w':=by
 obtain⟨ans,ha⟩:∃ans,greatT ns m=ans:=⟨_,rfl⟩
 have hG:greatT ns m=(anyT (ns.take (m+1))||decide (m<ns.length)):=rfl
 rw[ha]at hG ⊢
 clear ha
 replace hG:=hid hG
 have hb0:=BoxT.new w A ns.length c root 24
 have W0:=Zad w (.cells #[.slice A ns.length c,.int .i64 root] 24)
 have hr0:=hr.bel W0
 have bns:=hb0.ns
 replace hb0:=trivial
 go_enter Tryz.func16,Tryz.ntmps16
 go_wp2
 generalize w.alloc (.cells #[.slice A ns.length c,.int .i64 root] 24)=w0 at *
 go_loop [5] (fun i=>∃k:Nat,k≤ns.length∧k≤m+1∧i=.int .i64 k∧anyT (ns.take k)=false) (fun i=>ns.length-(intOf i).toNat)
 case atStart=>exact⟨0,Nat.zero_le _,Nat.zero_le _,rfl,rfl⟩
 case round=>
  obtain⟨k,hk,hkm,rfl,hrel⟩:=hrel
  by_cases hlt:k<ns.length
  ·by_cases hm:k≤m
   ·have ht:=Zyj hlt
    obtain⟨b,o,rfl,A',c',hR,_,h2,_⟩:=Zb7 hr0 hlt
    have hcell:=ZzZ hR
    generalize ns[k].v=v at *
    rw[hrel,Bool.false_or]at ht
    replace hrel:=hid hrel
    by_cases hv:100<v.length
    ·rw[decide_eq_true hv]at ht
     replace ht:=hid ht
     go_wp2
     go_ret
     exact⟨Zcs (by rw[hG.out,Zyi ht.out (by omega),Bool.true_or]),W0⟩
    ·rw[decide_eq_false hv]at ht
     replace ht:=hid ht
     go_wp2
     go_round
     case rel=>exact⟨k+1,by omega,by omega,by go_num,ht.out⟩
     case measure=>simp[intOf];omega
   ·obtain rfl:k=m+1:=by omega
    replace hrel:=hid hrel
    go_wp2
    go_ret
    exact⟨Zcs (by rw[hG.out,hrel.out,Bool.false_or]),W0⟩
  ·obtain rfl:k=ns.length:=by omega
   rw[List.take_length]at hrel
   replace hrel:=hid hrel
   go_wp2
   go_ret
   exact⟨Zcs (by rw[hG.out,List.take_of_length_le (by omega),hrel.out,Bool.false_or]),W0⟩
end
end Go.Proofs.YtomhoehlgagiiaaGreatDoor
