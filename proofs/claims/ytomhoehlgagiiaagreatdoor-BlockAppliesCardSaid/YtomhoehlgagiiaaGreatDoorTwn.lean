import Derived.Test.YtomhoehlgagiiaaGreatDoorBkL
set_option linter.all false
namespace Go.Proofs.YtomhoehlgagiiaaGreatDoor
open Go.RowKit
structure Zt where
 M:Nat
 T:Nat
 R:World→Prop
def upd(f:Nat→Option Zt)(i:Nat)(t:Option Zt):Nat→Option Zt:=fun j=>if j=i then t else f j
def Twn(W:World)(f:Nat→Option Zt):Prop:=
 (∀ i t,f i=some t→t.R W∧(∀ V V',t.R V→Chg (fun b=>b<t.M∨t.T≤b) V V'→t.R V')∧t.T≤W.heap.size)∧∀i j t u,i≠j→f i=some t→f j=some u→t.T≤u.M∨u.T≤t.M
section
variable{W W':World}{f:Nat→Option Zt}
theorem Twn.nil(W:World):Twn W (fun _=>none):=⟨fun i t h=>(by cases h),fun i j t u _ h=>(by cases h)⟩
theorem Twn.bel(h:Twn W f)(hb:Below W.heap.size W W'):Twn W' f:=
 ⟨fun i t ht=>by
  obtain⟨h1,h2,h3⟩:=h.1 i t ht
  exact⟨h2 _ _ h1 (Chg.of_bel hb),h2,Vx1 h3 hb.size⟩,h.2⟩
theorem Twn.new(h:Twn W f)(i:Nat)(hb:Below W.heap.size W W')(R:World→Prop)(hR:R W')(hS:∀V V',R V→Chg (fun b=>b<W.heap.size∨W'.heap.size≤b) V V'→R V'):Twn W' (upd f i (some ⟨W.heap.size,W'.heap.size,R⟩)):=by
 have hz:=hb.size
 refine⟨fun j t ht=>?_,fun j k t u hjk ht hu=>?_⟩
 ·unfold upd at ht
  split at ht
  ·injection ht with ht
   subst ht
   exact⟨hR,hS,Vx8 _⟩
  ·obtain⟨h1,h2,h3⟩:=(h.bel hb).1 j t ht
   exact⟨h1,h2,h3⟩
 ·unfold upd at ht hu
  split at ht<;>split at hu
  ·omega
  ·injection ht with ht
   subst ht
   exact .inr (h.1 k u hu).2.2
  ·injection hu with hu
   subst hu
   exact .inl (h.1 j t ht).2.2
  ·exact h.2 j k t u hjk ht hu
theorem Twn.box(h:Twn W f)(i:Nat)(hb:Below W.heap.size W W'){g:Nat}{o:Obj}(h1:W.heap.size≤g)(h2:W'.heap[g]? =some o):Twn W' (upd f i (some ⟨W.heap.size,W'.heap.size,fun V=>W.heap.size≤g∧g<W'.heap.size∧V.heap[g]? =some o⟩)):=
 have h3:=(Array.getElem?_eq_some_iff.1 h2).1
 h.new i hb _ ⟨h1,h3,h2⟩ fun V V' hV hc=>⟨hV.1,hV.2.1,(hc.block g (Array.getElem?_eq_some_iff.1 hV.2.2).1 (by omega)).trans hV.2.2⟩
theorem Twn.own(h:Twn W f)(i:Nat)(hb:Below W.heap.size W W'){α:Type}[Enc α]{E:TypeId}{A:Option Addr}{c:Nat}{xs:List α}(ho:OwnR E W' W.heap.size A c xs):Twn W' (upd f i (some ⟨W.heap.size,W'.heap.size,fun V=>OwnM E V W.heap.size W'.heap.size A c xs⟩)):=
 h.new i hb _ (OwnM.of ho) fun V V' hV hc=>hV.chg hc fun b h1 h2 h3=>by omega
theorem Twn.own2(h:Twn W f)(i:Nat)(hb:Below W.heap.size W W'){α β:Type}[Enc α][Enc β]{E E2:TypeId}{A A2:Option Addr}{c c2:Nat}{xs:List α}{ys:List β}(ho:OwnR E W' W.heap.size A c xs)(hp:OwnR E2 W' W.heap.size A2 c2 ys):Twn W' (upd f i (some ⟨W.heap.size,W'.heap.size,fun V=>OwnM E V W.heap.size W'.heap.size A c xs∧OwnM E2 V W.heap.size W'.heap.size A2 c2 ys⟩)):=
 h.new i hb _ ⟨OwnM.of ho,OwnM.of hp⟩ fun V V' hV hc=>⟨hV.1.chg hc fun b h1 h2 h3=>by omega,hV.2.chg hc fun b h1 h2 h3=>by omega⟩
theorem Twn.store(h:Twn W f)(i:Nat){g M T:Nat}{o:Obj}(hi:f i=some ⟨M,T,fun V=>M≤g∧g<T∧V.heap[g]? =some o⟩)(hc:W.grownBy W' (some g)){v:Obj}(hg:W'.heap[g]? =some v):Twn W' (upd f i (some ⟨M,T,fun V=>M≤g∧g<T∧V.heap[g]? =some v⟩)):=by
 obtain⟨⟨g1,g2,g3⟩,-,g4⟩:=h.1 i _ hi
 dsimp only at g1 g2 g4
 refine⟨fun j t ht=>?_,fun j k t u hjk ht hu=>?_⟩
 ·unfold upd at ht
  split at ht
  ·injection ht with ht
   subst ht
   exact⟨⟨g1,g2,hg⟩,fun V V' hV hc=>⟨hV.1,hV.2.1,(hc.block g (Array.getElem?_eq_some_iff.1 hV.2.2).1 (by dsimp only;omega)).trans hV.2.2⟩,Vx1 g4 hc.size⟩
  ·rename_i hji
   obtain⟨h1,h2,h3⟩:=h.1 j t ht
   have hd:=h.2 j i t _ hji ht hi
   dsimp only at hd
   exact⟨h2 _ _ h1 ((Chg.of_grown hc).mono fun b _ e=>by injection e with e;omega),h2,Vx1 h3 hc.size⟩
 ·unfold upd at ht hu
  split at ht<;>split at hu
  ·omega
  ·rename_i e1 e2
   injection ht with ht
   subst ht e1
   have k:=h.2 _ _ _ _ hjk hi hu
   exact k
  ·rename_i e1 e2
   injection hu with hu
   subst hu e2
   have k:=h.2 _ _ _ _ hjk ht hi
   exact k
  ·exact h.2 j k t u hjk ht hu
theorem Twn.get(h:Twn W f)(i:Nat){t:Zt}(hi:f i=some t):t.R W:=(h.1 i t hi).1
end
end Go.Proofs.YtomhoehlgagiiaaGreatDoor
