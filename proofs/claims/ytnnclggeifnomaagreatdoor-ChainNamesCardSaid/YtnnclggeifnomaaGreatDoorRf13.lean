import Derived.Test.YtnnclggeifnomaaGreatDoorRwX
import Derived.Test.YtnnclggeifnomaaGreatDoorStX
import Derived.Test.YtnnclggeifnomaaGreatDoorTagX
set_option maxRecDepth 100000
set_option linter.all false
namespace Go.Proofs.YtnnclggeifnomaaGreatDoor
open Go.RowKit
def z0R:Dg:=⟨List.replicate 32 0,rfl⟩
def rootRL(ls:List (List UInt8)):Dg:=if listR ls=true then rootR ls else z0R
theorem ZlG{fn:Func}{p u:Tmp}(h:fn.results=#[.cell p 37,.tmp u])(tmps:Array Value)(w:World)(g:Nat)(d:Dg)(e1:tmps.getD p undef=.pointer (some ⟨g,0,none⟩))
  (hg:w.heap[g]? =some (.cells (d.1.map bv).toArray 37 (0,0))):(results fn tmps).run Tryz.prog w=.ok (.tuple #[.agg (d.1.map bv).toArray,tmps.getD u undef]) w:=by
 have h2:=run_loadVar_mid (P:=Tryz.prog) w g 0 37 (d.1.map bv) _ (Zae hg) Tryz.underlying37 rfl (by rw[Vx6,d.2];exact Zai)
 rw[results_cell_tmp h,e1]
 simp only[asAddr,Sem.run_pure,Result.andThen_ok,h2]
theorem ZmS:Tryz.prog.built 37 []=some z32:=by kernel_rfl
theorem Zm7:(Tryz.prog.info? 41).map (fun i=>(i.zero,i.size,i.bytes))=some (some (.slice none 0 0),1,24):=by kernel_rfl
theorem Zie:Tryz.prog.underlying 191=some (.slice 41):=Tryz.underlying191
end Go.Proofs.YtnnclggeifnomaaGreatDoor
