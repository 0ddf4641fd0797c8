import Derived.Test.YtimaoonpgilekaaDoorAlive19
set_option linter.all false
namespace Go.Proofs.YtimaoonpgilekaaDoor
open Go.RowKit
set_option maxRecDepth 100000
theorem YqD{a:Int}(h:(Lit.int .u64 a).wf=true):∃k:Nat,a=(k:Int)∧k<18446744073709551616:=by
 simp[Lit.wf,IntKind.min,IntKind.max,IntKind.signed,IntKind.bits]at h
 exact⟨a.toNat,by omega,by omega⟩
end Go.Proofs.YtimaoonpgilekaaDoor
