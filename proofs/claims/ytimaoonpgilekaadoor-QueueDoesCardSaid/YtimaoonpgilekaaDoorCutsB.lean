import Derived.Test.YtimaoonpgilekaaDoorMem
set_option linter.all false
namespace Go.Proofs.YtimaoonpgilekaaDoor
open Go.RowKit
section
variable{P:Program}{α:Type}[Enc α]{S E:TypeId}{z:Value}{bytes:Nat}
theorem ZfL(h:Slot P α S E z bytes)(A:Option Addr)(n c k m:Nat)(hk:k≤m)(hm:m≤c)(w:World):
  (Instr.sliceAt S (.slice A n c) (some (.int .i64 (k:Int))) (some (.int .i64 (m:Int))) none).run P w=.ok (.slice (cutA A c k (Enc.size α)) (m-k) (c-k)) w:=by
 have he:P.underlying S=some (.slice (P.elem S)):=by rw[ZgM h];exact h.under
 rw[run_sliceAt_slice w S _ _ _ _ he,run_slice_lh w S A n c he .i64 .i64 (k:Int) (m:Int) (by omega) (by omega) (by omega),ZgM h,ZnJ h]
 rfl
end
end Go.Proofs.YtimaoonpgilekaaDoor
