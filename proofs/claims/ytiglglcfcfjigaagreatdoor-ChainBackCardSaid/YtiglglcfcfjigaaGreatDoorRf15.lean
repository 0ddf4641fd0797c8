import Derived.Test.YtiglglcfcfjigaaGreatDoorPuQ
set_option maxRecDepth 100000
set_option linter.all false
namespace Go.Proofs.YtiglglcfcfjigaaGreatDoor
open Go.RowKit
structure PB (W w:World) (x:Tx) (b k:Dg) (a:Ac) (g2 g3:Nat):Prop where
 X:W.heap[w.heap.size]? =some (.cells (txC x).toArray 145 (0,0))
 D:W.heap[w.heap.size+1]? =some (.cells (b.1.map bv).toArray 37 (0,0))
 K:W.heap[g2]? =some (.cells (k.1.map bv).toArray 37 (0,0))
 A:W.heap[g3]? =some (.cells (acC a).toArray 130 (0,0))
 lt2:w.heap.size+1<g2
 lt3:g2<g3
 ext:Below w.heap.size w W
theorem PB.bel{W W' w:World}{x:Tx}{b k:Dg}{a:Ac}{g2 g3:Nat}(h:PB W w x b k a g2 g3)(hb:Below W.heap.size W W'):PB W' w x b k a g2 g3:=
 ⟨(hb.block _ (block_lt h.X)).trans h.X,(hb.block _ (block_lt h.D)).trans h.D,(hb.block _ (block_lt h.K)).trans h.K,(hb.block _ (block_lt h.A)).trans h.A,h.lt2,h.lt3,h.ext.trans (hb.mono h.ext.size)⟩
theorem PB.x{W w:World}{x:Tx}{b k:Dg}{a:Ac}{g2 g3:Nat}(h:PB W w x b k a g2 g3):BoxX W w.heap.size x:=BoxX.of (Zae h.X)
end Go.Proofs.YtiglglcfcfjigaaGreatDoor
