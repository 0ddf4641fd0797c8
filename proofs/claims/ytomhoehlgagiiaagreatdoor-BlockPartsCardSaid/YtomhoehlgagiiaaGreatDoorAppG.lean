import Derived.Test.YtomhoehlgagiiaaGreatDoorMem
set_option linter.all false
namespace Go.Proofs.YtomhoehlgagiiaaGreatDoor
open Go.RowKit
def Zone(A:Option Addr)(M T:Nat):Prop:=∀a,A=some a→a.block<M∨T≤a.block
def Mid(A:Option Addr)(M T:Nat):Prop:=∀a,A=some a→M≤a.block∧a.block<T
theorem Zone.none(M T:Nat):Zone Option.none M T:=fun a h=>by cases h
theorem Zone.step{A A':Option Addr}{M T n:Nat}(h:Zone A M T)(hn:T≤n)(hA:A'=A∨A'=some ⟨n,0,Option.none⟩):Zone A' M T:=fun a ha=>by
 rcases hA with rfl|rfl
 ·exact h a ha
 ·injection ha with ha;subst ha;exact .inr hn
theorem Mid.mono{A:Option Addr}{M T T':Nat}(h:Mid A M T)(hT:T≤T'):Mid A M T':=fun a ha=>⟨(h a ha).1,Nat.lt_of_lt_of_le (h a ha).2 hT⟩
section
variable{P:Program}{S E:TypeId}
theorem Yep(h:U8s P S E)(w:World)(ty:TypeId)(B:Nat)(A A2:Option Addr)(c c2:Nat)(xs ys:List UInt8)(ho:Own E w B A c xs)(hr:Rd w A2 ys)
  (hlen:xs.length+ys.length≤140737488355328) (hB:B≤w.heap.size):
  ∃A' c' w',(Builtin.append_ #[S,S] ty #[.slice A xs.length c,.slice A2 ys.length c2]).run P w=.ok (.slice A' (xs++ys).length c') w'∧Own E w' B A' c' (xs++ys)∧w.grownBy w' (A.map (·.block))∧(A'=A∨A'=some ⟨w.heap.size,0,none⟩):=by
 obtain⟨i0,hi0,hz0,hz1,hz2⟩:=info_parts h.info
 rcases A2 with _|ad
 ·have hy:ys=[]:=by
   rcases Nat.eq_zero_or_pos ys.length with h0|h0
   ·exact List.eq_nil_of_length_eq_zero h0
   ·obtain⟨b,o,hA,_⟩:=hr h0
    cases hA
  subst hy
  refine⟨A,c,w,?_,by simpa using ho,⟨rfl,rfl,rfl,Nat.le_refl _,fun _ _ _=>rfl⟩,.inl rfl⟩
  rcases ho.2 with ⟨hv,h0⟩|⟨g,cap,cur,hv,_,_,hnc,_⟩
  ·injection hv with h1 h2 h3
   subst h1 h3
   have hx:xs=[]:=List.eq_nil_of_length_eq_zero h0
   subst hx
   simp[Builtin.append_,run_underlying h.under,sizeOf,typeInfo,hi0,Builtin.lenOf,Builtin.firstCells]
  ·injection hv with h1 _ h3
   subst h1 h3
   simp[Builtin.append_,run_underlying h.under,sizeOf,typeInfo,hi0,Builtin.lenOf,Builtin.firstCells,hnc,storeCells]
 ·obtain⟨A',c',w',hrun,hown,hg,hA⟩:=Zkd (P:=P) w B S ty E i0 (.int .u8 0) h.under hi0 hz0 (by rw[hz1];rfl) (by rw[hz1];decide) A xs.length c (xs.map bv) (by rw[hz1];exact ho) ad ys.length c2 (ys.map bv)
   (by rw[hz1];simp) hr.news (Zbn _) (by unfold maxLen;omega) (by rw[hz2];omega) hB
  have hlen2:(xs++ys).length=xs.length+ys.length:=by simp
  have hmap:(xs++ys).map bv=xs.map bv++ys.map bv:=by simp
  refine⟨A',c',w',by rw[hrun,hlen2],?_,hg,hA⟩
  unfold Own
  rw[hlen2,hmap]
  rw[hz1]at hown
  exact hown
theorem Zch(h:U8s P S E){w:World}{ops:Array Oper}{rest:List Oper}{o:Oper}{a:Act}{Q:Exit→Act→World→Prop}(hg:Region.wanted o (yielded ops a.tmps)=true)(s x:Operand)
  (hop:o.op=.call { callee:=.builtin .append,args:=#[s,x],argTypes:=#[S,S] })
  (B:Nat) (A A2:Option Addr) (n m c c2:Nat) (xs ys:List UInt8) (hs:a.eval s=.slice A n c) (hx:a.eval x=.slice A2 m c2) (hn:n=xs.length) (hm:m=ys.length)
  (ho:Own E w B A c xs) (hr:Rd w A2 ys) (hlen:xs.length+ys.length≤140737488355328) (hB:B≤w.heap.size)
  (hK:∀A' c' w',Own E w' B A' c' (xs++ys)→Below B w w'→w.grownBy w' (A.map (·.block))→(A'=A∨A'=some ⟨w.heap.size,0,none⟩)→wpList P ops Q rest (a.put o.dst (.slice A' (xs++ys).length c')) w'):wpList P ops Q (o::rest) a w:=
 wpList_step fun _ hK2=>by
  rw[if_pos hg]
  subst hn hm
  obtain⟨A',c',w',hrun,h1,h2,h3⟩:=Yep h w o.type B A A2 c c2 xs ys ho hr hlen hB
  unfold Oper.wp execOp
  simp only[hop,resolve,invoke,builtin,Sem.run_bind,Sem.run_pure,Result.andThen_ok,List.map_toArray,List.map_cons,List.map_nil,hs,hx,hrun]
  exact hK2 _ _ (hK A' c' w' h1 (ho.only h2 hB) h2 h3)
end
end Go.Proofs.YtomhoehlgagiiaaGreatDoor
