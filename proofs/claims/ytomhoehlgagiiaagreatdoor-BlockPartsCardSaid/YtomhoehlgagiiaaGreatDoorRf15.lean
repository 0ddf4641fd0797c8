import Derived.Test.YtomhoehlgagiiaaGreatDoorPureX
import Derived.Test.YtomhoehlgagiiaaGreatDoorRf10
import Derived.Test.YtomhoehlgagiiaaGreatDoorBits
import Derived.Test.YtomhoehlgagiiaaGreatDoorMem
import Derived.Test.YtomhoehlgagiiaaGreatDoorRefE
import Derived.Test.YtomhoehlgagiiaaGreatDoorPlain
import Derived.IntWalk
import Derived.Test.YtomhoehlgagiiaaGreatDoorStX
import Derived.Test.YtomhoehlgagiiaaGreatDoorPuQ
import Derived.Test.YtomhoehlgagiiaaGreatDoorRf6
import Derived.Test.YtomhoehlgagiiaaGreatDoorAppG
set_option maxRecDepth 100000
set_option linter.all false
namespace Go.Proofs.YtomhoehlgagiiaaGreatDoor
section
open Go.RowKit
def moreR(ps:List Pr)(k:Dg)(m:Nat):List Pr:=if moreB ps k m=true then moreL ps k m else []
end
section
open Go.RowKit
theorem Zld(ps:List Pr)(k:Dg)(a:Ac):(setP ps k a).length≤ps.length+1:=by
 have h:(withoutP ps k).length≤ps.length:=List.length_filter_le _ _
 unfold setP
 split
 ·omega
 ·rw[Zb3];omega
theorem Znd(ps:List Pr)(k:Dg)(n:Nat):(moreR ps k n).length≤ps.length+1:=by
 unfold moreR
 split
 ·exact Zld _ _ _
 ·exact Nat.zero_le _
theorem Zne{ps:List Pr}{k:Dg}{n:Nat}(h:moreB ps k n=true):moreR ps k n=moreL ps k n:=by unfold moreR;rw[if_pos h]
theorem Yap(ps:List Pr)(x:Tx)(box:Dg):
  paidC ps x box=(if poorB ps x=true then 150 else if (moreB (lessL ps x) x.t x.a&&moreB (moreR (lessL ps x) x.t x.a) box x.f)=true then 0 else 151)∧
  paidL ps x box=(if poorB ps x=true then bareL ps x else if (moreB (lessL ps x) x.t x.a&&moreB (moreR (lessL ps x) x.t x.a) box x.f)=true then moreR (moreR (lessL ps x) x.t x.a) box x.f else bareL ps x):=by
 have hL:paidL ps x box=if paidC ps x box=0 then moreL (moreL (lessL ps x) x.t x.a) box x.f else bareL ps x:=rfl
 have hC:paidC ps x box=if poorB ps x=true then 150 else if overB ps x box=true then 151 else 0:=rfl
 have hO:overB ps x box= !(moreB (lessL ps x) x.t x.a&&moreB (moreL (lessL ps x) x.t x.a) box x.f):=rfl
 cases hp:poorB ps x
 ·cases h1:moreB (lessL ps x) x.t x.a
  ·rw[h1]at hO
   rw[hp,hO]at hC
   rw[hL,hC]
   constructor<;>simp
  ·rw[Zne h1]
   cases h2:moreB (moreL (lessL ps x) x.t x.a) box x.f
   ·rw[h1,h2]at hO
    rw[hp,hO]at hC
    rw[hL,hC]
    constructor<;>simp
   ·rw[h1,h2]at hO
    rw[hp,hO]at hC
    rw[hL,hC,Zne h2]
    constructor<;>simp
 ·rw[hp]at hC
  rw[hL,hC]
  constructor<;>simp
structure PB (W w:World) (x:Tx) (b k:Dg) (a:Ac) (g2 g3:Nat):Prop where
 X:W.heap[w.heap.size]? =some (.cells (txC x).toArray 39 (0,0))
 D:W.heap[w.heap.size+1]? =some (.cells (b.1.map bv).toArray 26 (0,0))
 K:W.heap[g2]? =some (.cells (k.1.map bv).toArray 26 (0,0))
 A:W.heap[g3]? =some (.cells (acC a).toArray 118 (0,0))
 lt2:w.heap.size+1<g2
 lt3:g2<g3
 ext:Below w.heap.size w W
theorem PB.bel{W W' w:World}{x:Tx}{b k:Dg}{a:Ac}{g2 g3:Nat}(h:PB W w x b k a g2 g3)(hb:Below W.heap.size W W'):PB W' w x b k a g2 g3:=
 ⟨(hb.block _ (block_lt h.X)).trans h.X,(hb.block _ (block_lt h.D)).trans h.D,(hb.block _ (block_lt h.K)).trans h.K,(hb.block _ (block_lt h.A)).trans h.A,h.lt2,h.lt3,h.ext.trans (hb.mono h.ext.size)⟩
theorem PB.x{W w:World}{x:Tx}{b k:Dg}{a:Ac}{g2 g3:Nat}(h:PB W w x b k a g2 g3):BoxX W w.heap.size x:=BoxX.of (Zae h.X)
end
end Go.Proofs.YtomhoehlgagiiaaGreatDoor
