import Derived.Test.YtimaoonpgilekaaDoorMem
set_option linter.all false
namespace Go.Proofs.YtimaoonpgilekaaDoor
open Go.RowKit
def sameI(v v':Value):Prop:=∃(kd:IntKind) (n m:Int),v=.int kd n∧v'=.int kd m
theorem sameI.trans{a b c:Value}(h:sameI a b)(k:sameI b c):sameI a c:=by
 obtain⟨k1,n1,m1,rfl,rfl⟩:=h
 obtain⟨k2,n2,m2,e,rfl⟩:=k
 injection e with e1 e2
 subst e1
 exact⟨k1,n1,m2,rfl,rfl⟩
structure MutI (F:Nat→Prop) (w w':World):Prop where
 chg:Chg F w w'
 cells:∀(b:Nat) (cs:Array Value) (t:TypeId),w.heap[b]? =some (Obj.cells cs t (0,0))→∃cs',w'.heap[b]? =some (Obj.cells cs' t (0,0))∧∀(i:Nat) (v:Value),cs[i]? =some v→∃v',cs'[i]? =some v'∧(v'=v∨sameI v v')
theorem MutI.refl(F:Nat→Prop)(w:World):MutI F w w:=⟨Chg.refl F w,fun b cs t h=>⟨cs,h,fun i v hv=>⟨v,hv,.inl rfl⟩⟩⟩
theorem MutI.drew{F:Nat→Prop}{w w':World}(h:MutI F w w'):MutI F w w'.drew:=⟨h.chg.trans (Chg.of_bel (Zao w')),h.cells⟩
theorem MutI.store{F:Nat→Prop}{w W:World}(h:MutI F w W){b i:Nat}(hF:F b){kd:IntKind}{n:Int}(hc:W.cell? ⟨b,i,none⟩=some (.int kd n))(m:Int):MutI F w (W.setCell ⟨b,i,none⟩ (.int kd m)):=by
 refine⟨h.chg.trans ⟨rfl,rfl,rfl,by simp[World.setCell],fun k hk hn=>Vy3 _ _ _ k (fun e=>hn (by rw[e];exact hF))⟩,fun k cs t hk=>?_⟩
 obtain⟨cs1,h1,h2⟩:=h.cells k cs t hk
 by_cases e:k=b
 ·subst e
  refine⟨_,ZaD h1 i _,fun j v hv=>?_⟩
  obtain⟨v1,h3,h4⟩:=h2 j v hv
  rw[Array.getElem?_setIfInBounds]
  by_cases he:i=j
  ·subst he
   have hsz:i<cs1.size:=(Array.getElem?_eq_some_iff.1 h3).1
   rw[if_pos rfl,if_pos hsz]
   rw[Zaq h1 i,h3]at hc
   injection hc with hc
   refine⟨_,rfl,.inr ?_⟩
   have hs:sameI v1 (.int kd m):=⟨kd,n,m,hc,rfl⟩
   rcases h4 with h4|h4
   ·rw[← h4];exact hs
   ·exact h4.trans hs
  ·rw[if_neg he]
   exact⟨v1,h3,h4⟩
 ·exact⟨cs1,(Vy3 _ _ _ k e).trans h1,h2⟩
theorem Soft.mutI{F:Nat→Prop}{w W:World}{b:Nat}(hs:Soft w b)(h:MutI F w W):Soft W b:=by
 obtain⟨cs,t,hs⟩:=hs
 obtain⟨cs',h1,_⟩:=h.cells b cs t hs
 exact⟨cs',t,h1⟩
theorem MutI.same{F:Nat→Prop}{w W:World}{b i:Nat}{v:Value}(h:MutI F w W)(hs:Soft w b)(hc:w.cell? ⟨b,i,none⟩=some v)(hv:∀v',¬sameI v v'):W.cell? ⟨b,i,none⟩=some v:=by
 obtain⟨cs,t,hs⟩:=hs
 obtain⟨cs',h1,h2⟩:=h.cells b cs t hs
 rw[Zaq hs i]at hc
 obtain⟨v',h3,h4⟩:=h2 i v hc
 rw[Zaq h1 i,h3]
 rcases h4 with h4|h4
 ·rw[h4]
 ·exact absurd h4 (hv v')
theorem MutI.num{F:Nat→Prop}{w W:World}{b i:Nat}{kd:IntKind}{x:Int}(h:MutI F w W)(hs:Soft w b)(hc:w.cell? ⟨b,i,none⟩=some (.int kd x)):∃n:Int,W.cell? ⟨b,i,none⟩=some (.int kd n):=by
 obtain⟨cs,t,hs⟩:=hs
 obtain⟨cs',h1,h2⟩:=h.cells b cs t hs
 rw[Zaq hs i]at hc
 obtain⟨v',h3,h4⟩:=h2 i _ hc
 rw[Zaq h1 i,h3]
 rcases h4 with h4|⟨kd',n,m,h4,h5⟩
 ·exact⟨x,by rw[h4]⟩
 ·injection h4 with e1 e2
  subst e1
  exact⟨m,by rw[h5]⟩
theorem Zcd(A:Option Addr)(n c:Nat):∀v',¬sameI (.slice A n c) v':=by rintro v' ⟨kd,n,m,h,_⟩;cases h
end Go.Proofs.YtimaoonpgilekaaDoor
