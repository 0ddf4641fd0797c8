import Derived.Test.YtnnclggeifnomaaGreatDoorPrA
import Derived.Test.YtnnclggeifnomaaGreatDoorTagX
import Derived.Test.YtnnclggeifnomaaGreatDoorStX
set_option maxRecDepth 100000
set_option linter.all false
namespace Go.Proofs.YtnnclggeifnomaaGreatDoor
open Go.RowKit
theorem Zdm(k:UInt8){l m:List UInt8}(hl:l.length≤64)(hm:m.length≤64):(tagB k [l,m]).length≤100000:=by
 have h:=Zhu k [l,m] 64 (by intro x hx;simp at hx;rcases hx with rfl|rfl<;>assumption)
 simp only[List.length_cons,List.length_nil]at h
 omega
section
variable{P:Program}
theorem Zdf{ops:Array Oper}{o:Oper}{a:Act}{w:World}{K:Act→World→Prop}{Q:Exit→Act→World→Prop}{X:Prop}(hw:o.guard=none)(ty:TypeId)(x y:Operand)(ho:o.op=.store ty x y)
  (g:Nat) (cs:Array Value) (hx:a.eval x=.pointer (some ⟨g,0,none⟩)) (hy:a.eval y=.agg cs) (t:TypeId) (old:Array Value) (hg:w.heap[g]? =some (.cells old t (0,0)))
  (hi:(P.info? ty).map (·.size)=some cs.size) (hold:old.size=cs.size) (h1:cs.all (·.oneCell')=true)
  (h:∀w',w'.heap[g]? =some (.cells cs t (0,0))→w.grownBy w' (some g)→K (a.put o.dst undef) w'):if Region.wanted o (yielded ops a.tmps)=true then Oper.wp P o a w K Q else X:=by
 rw[if_pos (by simp[Region.wanted,hw])]
 exact wp_store_row ty x y ho g cs hx hy t old hg hi hold h1 fun w' h2 h3 _=>h w' h2 h3
theorem Ze1{ops:Array Oper}{o:Oper}{a:Act}{w:World}{K:Act→World→Prop}{Q:Exit→Act→World→Prop}{X:Prop}(hw:o.guard=none)(ty:TypeId)(ho:o.op=.alloc ty)
  (zs:Array Value) (hz:(P.info? ty).map (fun i=>(i.zero,i.size))=some (some (.agg zs),zs.size))
  (h:∀g w',w.heap.size≤g→w'.heap[g]? =some (.cells zs ty (0,0))→Below w.heap.size w w'→K (a.put o.dst (.pointer (some ⟨g,0,none⟩))) w'):if Region.wanted o (yielded ops a.tmps)=true then Oper.wp P o a w K Q else X:=by
 rw[if_pos (by simp[Region.wanted,hw])]
 have hq:∃i,P.info? ty=some i∧i.zero=some (.agg zs):=by
  cases hq:P.info? ty with
  |none=>simp[hq]at hz
  |some i=>simp[hq]at hz;exact⟨i,rfl,hz.1⟩
 obtain⟨i,hi,hzz⟩:=hq
 unfold Oper.wp execOp
 simp only[ho]
 simp[Instr.alloc,zeroValue,typeInfo,hi,hzz,newVar,Value.cells]
 exact h _ _ (Vx8 _) (Vx0 w (.cells zs ty)) (Zad w _)
end
end Go.Proofs.YtnnclggeifnomaaGreatDoor
