import Derived.Test.YtnnclggeifnomaaGreatDoorStX
set_option maxRecDepth 100000
set_option linter.all false
namespace Go.Proofs.YtnnclggeifnomaaGreatDoor
open Go.RowKit
theorem OwnQ.keptG{α:Type}[Enc α]{E:TypeId}{w w':World}{B0 B g:Nat}{A:Option Addr}{c:Nat}{xs:List α}(h:OwnQ E w B0 B A c xs)(hk:∀b,b<w.heap.size→b≠g→w'.heap[b]? =w.heap[b]?)(h0:g<B0)(h1:g<B):OwnQ E w' B0 B A c xs:=by
 have hb:=h.blk
 obtain⟨F,k1,k2⟩:=h
 exact⟨F,k1.kept (fun a ha hl=>hk _ hl fun e=>by have:=(hb a ha).1;omega) (fun b hf hl=>hk b hl fun e=>by have:=(k2 b hf).1;omega),fun b hf=>⟨(k2 b hf).1,(k2 b hf).2.kept (hk b (k2 b hf).2.lt fun e=>by have:=(k2 b hf).1;omega)⟩⟩
end Go.Proofs.YtnnclggeifnomaaGreatDoor
