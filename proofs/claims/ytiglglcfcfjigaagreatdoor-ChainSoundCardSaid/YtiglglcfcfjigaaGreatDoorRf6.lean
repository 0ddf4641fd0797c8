import Derived.Test.YtiglglcfcfjigaaGreatDoorStX
import Derived.Test.YtiglglcfcfjigaaGreatDoorRefE
set_option maxRecDepth 100000
set_option linter.all false
namespace Go.Proofs.YtiglglcfcfjigaaGreatDoor
open Go.RowKit
def anyT(ns:List Nd):Bool:=ns.any fun x=>decide (100<x.v.length)
def greatT(ns:List Nd)(m:Nat):Bool:=anyT (ns.take (m+1))||decide (m<ns.length)
theorem Zyj{ns:List Nd}{j:Nat}(hj:j<ns.length):anyT (ns.take (j+1))=(anyT (ns.take j)||decide (100<ns[j].v.length)):=by
 unfold anyT
 rw[Vy5 hj,List.any_append]
 simp
theorem Zyi{ns:List Nd}{j m:Nat}(h:anyT (ns.take j)=true)(hj:j≤m):anyT (ns.take m)=true:=by
 unfold anyT at h ⊢
 rw[List.any_eq_true]at h ⊢
 obtain⟨x,h1,h2⟩:=h
 refine⟨x,?_,h2⟩
 rw[show ns.take j=(ns.take m).take j by rw[List.take_take,Nat.min_eq_left hj]]at h1
 exact List.mem_of_mem_take h1
set_option maxHeartbeats 1600000 in
theorem ZaY(F:Nat→Prop)(A:Option Addr)(c m:Nat)(ns:List Nd)(root:Int)(w:World)(hr:Row F w A ns)(hc:ns.length≤9223372036854775807):
  Calls Tryz.prog 58 #[.agg #[.slice A ns.length c,.int .i64 root],.int .i64 (m:Int)] w fun e w'=>e=.returned (.bool (greatT ns m))∧Below w.heap.size w w':=by
 obtain⟨ans,ha⟩:∃ans,greatT ns m=ans:=⟨_,rfl⟩
 have hG:greatT ns m=(anyT (ns.take (m+1))||decide (m<ns.length)):=rfl
 rw[ha]at hG ⊢
 clear ha
 replace hG:=hid hG
 have hb0:=BoxT.new w A ns.length c root 24
 have W0:=Zad w (.cells #[.slice A ns.length c,.int .i64 root] 24)
 have hr0:=hr.bel W0
 have bns:=hb0.ns
 replace hb0:=trivial
 go_enter Tryz.func58,Tryz.ntmps58
 go_wp2
 generalize w.alloc (.cells #[.slice A ns.length c,.int .i64 root] 24)=w0 at *
 go_loop [5] (fun i=>∃k:Nat,k≤ns.length∧k≤m+1∧i=.int .i64 k∧anyT (ns.take k)=false) (fun i=>ns.length-(intOf i).toNat)
 case atStart=>exact⟨0,Nat.zero_le _,Nat.zero_le _,rfl,rfl⟩
 case round=>
  obtain⟨k,hk,hkm,rfl,hrel⟩:=hrel
  by_cases hlt:k<ns.length
  ·by_cases hm:k≤m
   ·have ht:=Zyj hlt
    obtain⟨b,o,rfl,A',c',hR,_,h2,_⟩:=Zb7 hr0 hlt
    have hcell:=ZzZ hR
    generalize ns[k].v=v at *
    rw[hrel,Bool.false_or]at ht
    replace hrel:=hid hrel
    by_cases hv:100<v.length
    ·rw[Vy2 hv]at ht
     replace ht:=hid ht
     go_wp2
     go_ret
     exact⟨Zcs (by rw[hG.out,Zyi ht.out (by omega),Bool.true_or]),W0⟩
    ·rw[Vy1 hv]at ht
     replace ht:=hid ht
     go_wp2
     go_round
     case rel=>exact⟨k+1,by omega,by omega,by go_num,ht.out⟩
     case measure=>simp[intOf];omega
   ·obtain rfl:k=m+1:=by omega
    replace hrel:=hid hrel
    go_wp2
    go_ret
    exact⟨Zcs (by rw[hG.out,hrel.out,Bool.false_or]),W0⟩
  ·obtain rfl:k=ns.length:=by omega
   rw[List.take_length]at hrel
   replace hrel:=hid hrel
   go_wp2
   go_ret
   exact⟨Zcs (by rw[hG.out,List.take_of_length_le (by omega),hrel.out,Bool.false_or]),W0⟩
theorem OwnQ.keptG{α:Type}[Enc α]{E:TypeId}{w w':World}{B0 B g:Nat}{A:Option Addr}{c:Nat}{xs:List α}(h:OwnQ E w B0 B A c xs)(hk:∀b,b<w.heap.size→b≠g→w'.heap[b]? =w.heap[b]?)(h0:g<B0)(h1:g<B):OwnQ E w' B0 B A c xs:=by
 have hb:=h.blk
 obtain⟨F,k1,k2⟩:=h
 exact⟨F,k1.kept (fun a ha hl=>hk _ hl fun e=>by have:=(hb a ha).1;omega) (fun b hf hl=>hk b hl fun e=>by have:=(k2 b hf).1;omega),fun b hf=>⟨(k2 b hf).1,(k2 b hf).2.kept (hk b (k2 b hf).2.lt fun e=>by have:=(k2 b hf).1;omega)⟩⟩
end Go.Proofs.YtiglglcfcfjigaaGreatDoor
