import Derived.RangeFuncNested
import Derived.RangeFuncBox
import Derived.RangeFuncBound
import Derived.RangeFuncCalls
import Derived.RangeFuncLeaves
import Derived.Shelf.Abstract
import Derived.Shelf.RegionOpen
import Derived.OwnWalkIn
import Derived.Laws.EntriesVeiled
import Derived.TacticsInMore
import Derived.LoopNIn
import Derived.LoopIn
import Derived.Test.YtimaoonpgilekaaDoorBits
set_option maxRecDepth 100000
set_option linter.all false
namespace Go.Proofs.YtimaoonpgilekaaDoor
open Go.RowKit Go.Shelf
def Keep2(n₀ p q:Nat)(W W':World):Prop:=Below n₀ W W'∧W'.heap[p]? =W.heap[p]?∧W'.heap[q]? =W.heap[q]?
theorem Keep2.refl(n₀ p q:Nat)(W:World):Keep2 n₀ p q W W:=⟨Below.refl _ _,rfl,rfl⟩
theorem Keep2.trans{n₀ p q:Nat}{A B C:World}(h:Keep2 n₀ p q A B)(k:Keep2 n₀ p q B C):Keep2 n₀ p q A C:=⟨h.1.trans k.1,k.2.1.trans h.2.1,k.2.2.trans h.2.2⟩
theorem Keep2.bel{n₀ p q:Nat}{W W':World}(hb:Below W.heap.size W W')(hn:n₀≤W.heap.size)(hp:p<W.heap.size)(hq:q<W.heap.size):Keep2 n₀ p q W W':=⟨hb.mono hn,hb.block p hp,hb.block q hq⟩
theorem ZbR{W W':World}(hb:Below W.heap.size W W'):W.grownBy W' none:=⟨hb.os,hb.tape,hb.output,hb.size,fun k hk _=>hb.block k hk⟩
theorem Zax{W:World}{k:Nat}{row:Option Nat}{cs:Array Value}{t:TypeId}{m:Nat×Nat}(h:W.heap[k]? =some (.cells cs t m))(hr:∀r,row=some r→∃o:Obj,W.heap[r]? =some o∧o.isCells=false):some k≠row:=by
 intro e
 obtain⟨o,ho,hc⟩:=hr k e.symm
 rw[h]at ho
 injection ho with ho
 subst ho
 cases hc
theorem Zaw{W W':World}{B N:Nat}{t:TypeId}{v:Value}(h:Boxed W B t v)(hb:Below N W W')(hB:B<N):Boxed W' B t v:=(hb.block _ hB).trans h
section
variable{F:Fence}{n:Nat}{P:Program}
theorem ZaI{ops:Array Oper}{o:Oper}{a:Act}{w:World}{K:Act→World→Prop}{Q:Exit→Act→World→Prop}{X:Prop}(hw:Region.wanted o (yielded ops a.tmps)=true)(ty:TypeId)(x:Operand)(ho:o.op=.load ty x)
  (g:Nat) (hx:a.eval x=.pointer (some ⟨g,0,none⟩)) (t:TypeId) (cs:Array Value) (fr:Nat×Nat) (d:TypeDesc) (hg:w.heap[g]? =some (.cells cs t fr))
  (hu:P.underlying ty=some d) (hd:(match d with| .struct _| .array _ _=>true|_=>false)=true) (hi:(P.info? ty).map (·.size)=some cs.size)
  (hK:K (a.put o.dst (.agg cs)) w):if Region.wanted o (yielded ops a.tmps)=true then Oper.wpIn F n P o a w K Q else X:=by
 rw[if_pos hw]
 unfold Oper.wpIn
 refine⟨?_,?_⟩
 ·simp[Oper.about,ho]
 ·rw[Oper.semAt_plain F _ _ (by rw[ho];intro c hc';cases hc')]
  simp only[execOp,ho,hx,Instr.loadAt,Instr.sureAddr,Sem.run_bind,Sem.run_pure,Result.andThen_ok,run_loadVar_row w g t ty cs fr d hg hu hd hi]
  exact hK
theorem ZaW{ops:Array Oper}{rest:List Oper}{o:Oper}{a:Act}{w:World}{Q:Exit→Act→World→Prop}(hg0:o.guard=none)(ty:TypeId)(x:Operand)(ho:o.op=.load ty x)
  (g:Nat) (hx:a.eval x=.pointer (some ⟨g,0,none⟩)) (t:TypeId) (cs:Array Value) (fr:Nat×Nat) (d:TypeDesc) (hg:w.heap[g]? =some (.cells cs t fr))
  (hu:P.underlying ty=some d) (hd:(match d with| .struct _| .array _ _=>true|_=>false)=true) (hi:(P.info? ty).map (·.size)=some cs.size)
  (h:wpListIn F n P ops Q rest (a.put o.dst (.agg cs)) w):wpListIn F n P ops Q (o::rest) a w:=by
 refine wpListIn_plain hg0 fun K hK=>?_
 have:=ZaI (F:=F) (n:=n) (P:=P) (ops:=ops) (o:=o) (a:=a) (w:=w) (K:=K) (Q:=Q) (X:=True) (by simp[Region.wanted,hg0]) ty x ho g hx t cs fr d hg hu hd hi (hK _ _ h)
 rw[if_pos (by simp[Region.wanted,hg0])]at this
 exact this
end
def Two.encs(x:Nat×Nat):Array Value:=#[.int .u8 (x.1:Int),.int .u8 (x.2:Int)]
def two(l m:List UInt8)(i:Nat):Nat×Nat:=(kb l i,kb m i)
end Go.Proofs.YtimaoonpgilekaaDoor
