import Derived.Test.YtimaoonpgilekaaDoorTagX
import Derived.Test.YtimaoonpgilekaaDoorRf10
import Derived.Deep.OwnRows
set_option linter.all false
namespace Go.Proofs.YtimaoonpgilekaaDoor
open Go.RowKit
set_option maxRecDepth 100000
theorem Zdg{P:Program}{α:Type}[Enc α]{S E:TypeId}{z:Value}{bytes:Nat}(hS:Slot P α S E z bytes){w:World}{ops:Array Oper}{rest:List Oper}{o:Oper}{a:Act}{Q:Exit→Act→World→Prop}(hg:Region.wanted o (yielded ops a.tmps)=true)
  (n:Nat) (parts:Array (Nat×Operand)) (hop:o.op=.buildSlice S n parts) (css:List (List Value)) (vs:List Value) (hn:css.length=n) (h0:0<n) (hsm:n * Enc.size α≤16777216) (hl:∀cs∈css,cs.length=Enc.size α) (hvs:vs.map (·.cells)=css.map (·.toArray))
  (hp:parts.toList.map (fun (i,x)=>(i,a.eval x))=(vs.zipIdx 0).map fun x=>(x.2,x.1))
  (hK:wpList P ops Q rest (a.put o.dst (.slice (some ⟨w.heap.size,0,none⟩) n n)) (w.alloc (.cells css.flatten.toArray E))):wpList P ops Q (o::rest) a w:=
 wpList_step fun _ hK2=>by
  rw[if_pos hg]
  have he:(parts.map fun (i,x)=>(i,a.eval x))=((vs.zipIdx 0).map fun x=>(x.2,x.1)).toArray:=by
   apply Array.ext'
   rw[Array.toList_map,hp]
  unfold Oper.wp execOp
  simp only[hop,he,Sem.run_bind,Zfg hS n css hn h0 hsm hl vs hvs w,Result.andThen_ok]
  exact hK2 _ _ hK
end Go.Proofs.YtimaoonpgilekaaDoor
