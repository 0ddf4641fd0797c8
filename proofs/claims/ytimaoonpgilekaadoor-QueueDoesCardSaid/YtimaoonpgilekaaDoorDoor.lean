import Derived.Test.YtimaoonpgilekaaDoorCards
import Derived.Test.YtimaoonpgilekaaDoorTie
import Derived.Test.YtimaoonpgilekaaDoorShaX
import Derived.Deep.DeepHandedRow
namespace Go.Proofs.YtimaoonpgilekaaDoor
open Go.ChangeShapes Go.WideShapes Go.ChangeAt Go.RowKit
theorem gTab : Tryd.prog.globalNamed "beadroll/sha.k" = some 0 := by kernel_rfl
theorem Yc6:(Tryd.prog.globals[0]?).map (·.type)=some 115:=by kernel_rfl
theorem YcH:Tryd.prog.cellsOf 115=64:=by kernel_rfl
theorem ZyV:Tryd.prog.cellsOf 91=1:=by kernel_rfl
def tabZ:List Int:=Kw.map fun x=>(x.toNat:Int)
theorem laid_tab:(Rows.laid_beadroll_sha_k:DataW Unit)=Lib.tabData .u32 tabZ:=by kernel_rfl
theorem Yks{W : World}(h : laidMet Tryd.prog [("beadroll/sha.k", Rows.laid_beadroll_sha_k)] W): Tab W := by
 rw[laid_tab]at h
 have h1:=Lib.tabIs_of_head (rest:=[]) gTab Yc6 Tryd.underlying115 Tryd.underlying91 ZyV YcH h
 intro i hi
 have hl:i<tabZ.length:=by rw[tabZ,Vx6,Zqr];exact hi
 have h2:=h1.cell gTab i hl
 have e:tabZ.getD i 0=((Kw.getD i 0).toNat:Int):=by
  rw[List.getD_eq_getElem?_getD,tabZ,List.getElem?_map,Vx9 (by rw[Zqr];exact hi),ZdJ _ _ (by rw[Zqr];exact hi)]
  rfl
 rw[e]at h2
 exact h2
noncomputable def laidWorld (os:Os):World:=
 { World.holding Tryd.prog os ⟨#[],#[],[]⟩with heap:=(World.holding Tryd.prog os ⟨#[],#[],[]⟩).heap.modify 0 fun
   | .cells _ t frozen=>.cells (wvs Kw) t frozen
   |o=>o }
end Go.Proofs.YtimaoonpgilekaaDoor
