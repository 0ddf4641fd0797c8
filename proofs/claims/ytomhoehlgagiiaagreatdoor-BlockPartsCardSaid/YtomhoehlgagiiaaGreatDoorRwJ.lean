import Derived.Test.YtomhoehlgagiiaaGreatDoorInW
import Derived.Test.YtomhoehlgagiiaaGreatDoorSls
set_option linter.all false
namespace Go.Proofs.YtomhoehlgagiiaaGreatDoor
open Go.RowKit
set_option maxRecDepth 100000
theorem Zbo{α:Type}[Enc α]{E:TypeId}{F:Nat→Prop}(w:World)(B:Nat)(hB:B≤w.heap.size)(hF:¬F w.heap.size):RowO E F (w.alloc (.cells #[] E)) B (some ⟨w.heap.size,0,none⟩) 0 ([]:List α):=by
 refine⟨[],rfl,⟨by simp,.inr ⟨w.heap.size,0,#[],rfl,hB,heap_alloc_new w _,Nat.le_refl _,Nat.zero_le _,by simp,by simp⟩⟩,fun j x vs h=>by simp at h,fun a ha=>by injection ha with ha;subst ha;exact hF⟩
end Go.Proofs.YtomhoehlgagiiaaGreatDoor
