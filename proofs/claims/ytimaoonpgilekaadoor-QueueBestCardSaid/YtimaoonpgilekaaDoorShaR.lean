import Derived.Test.YtimaoonpgilekaaDoorBits
import Derived.RegionTactic
import Derived.BigRegion
import Derived.StillTailTactics
set_option maxRecDepth 100000
set_option linter.all false
namespace Go.Proofs.YtimaoonpgilekaaDoor
open Go.RowKit
def z64:Array Value:=wvs (List.replicate 64 0)
theorem Zkt:z64.size=64:=by decide +kernel
theorem ZoF:(Tryd.prog.info? 115).map (fun i=>(i.zero,i.size))=some (some (.agg z64),z64.size):=by kernel_rfl
theorem Zh8:(Tryd.prog.info? 115).map (·.size)=some 64:=by kernel_rfl
structure SI (w wr:World) (ws:List UInt32):Prop where
 below:Below w.heap.size w wr
 res:wr.heap[w.heap.size]? =some (.cells z64 115 (0,0))
 cur:wr.heap[w.heap.size+1]? =some (.cells (wvs ws) 115 (0,0))
theorem SI.drewN{w wr:World}{ws:List UInt32}(h:SI w wr ws)(k:Nat):SI w (wr.drewN k) ws:=⟨below_drewN h.below k,h.res,h.cur⟩
theorem SI.set{w wr:World}{ws:List UInt32}(h:SI w wr ws)(i:Nat)(x:UInt32):SI w (wr.setCell ⟨w.heap.size+1,i,none⟩ (.int .u32 (x.toNat:Int))) (ws.set i x):=
 ⟨h.below.setCell (by simp) _,(Vy3 _ _ _ _ (by simp)).trans h.res,Zo1 h.cur i x⟩
theorem SI.new(w:World):SI w ((w.alloc (.cells z64 115)).alloc (.cells z64 115)) (List.replicate 64 0):=
 ⟨(Zad w _).alloc (by simp) _,(Below.heap_alloc _ _ _ (by simp)).trans (Vx0 w _),by
  have e:(w.alloc (.cells z64 115)).heap.size=w.heap.size+1:=by simp
  rw[← e]
  exact Vx0 (w.alloc (.cells z64 115)) (.cells z64 115)⟩
theorem take_drop_succ(l:List UInt8)(t i:Nat)(h:4 * t+i<l.length):(l.drop (4 * t)).take (i+1)=(l.drop (4 * t)).take i++[l[4 * t+i]]:=by
 rw[Vy5 (by simp;omega)]
 simp
def z8:Array Value:=((List.replicate 8 (0:UInt8)).map bv).toArray
structure SumI (gS gK:Nat) (A:Option Addr) (p:List UInt8) (w wr:World) (s:S8):Prop where
 below:Below w.heap.size w wr
 res:wr.heap[w.heap.size]? =some (.cells z32 23 (0,0))
 cur:wr.heap[gS]? =some (.cells (wvs s.list) 92 (0,0))
 tab:wr.heap[gK]? =some (.cells (wvs Kw) 115 (0,0))
 rd:Rd wr A p
 apart:∀a,A=some a→gS<a.block
theorem SumI.ext{gS gK:Nat}{A:Option Addr}{p:List UInt8}{w wr w':World}{s:S8}(h:SumI gS gK A p w wr s)(hb:Below wr.heap.size wr w'):SumI gS gK A p w w' s:=
 ⟨Zag h.below hb,(hb.block _ (block_lt h.res)).trans h.res,(hb.block _ (block_lt h.cur)).trans h.cur,(hb.block _ (block_lt h.tab)).trans h.tab,h.rd.bel hb,h.apart⟩
theorem SumI.put{gS gK:Nat}{A:Option Addr}{p:List UInt8}{w wr w':World}{s s':S8}(h:SumI gS gK A p w wr s)(hg:wr.grownBy w' (some gS))(hS:w.heap.size<gS)(hK:gS<gK)
  (hcur:w'.heap[gS]? =some (.cells (wvs s'.list) 92 (0,0))):SumI gS gK A p w w' s':=
 ⟨h.below.grown hg h.below.size (fun k hk=>by injection hk with hk;omega),(hg.block _ (block_lt h.res) (fun e=>by injection e with e;omega)).trans h.res,hcur,(hg.block _ (block_lt h.tab) (fun e=>by injection e with e;omega)).trans h.tab,
  h.rd.grown hg (fun a ha e=>by injection e with e;have:=h.apart a ha;omega),h.apart⟩
end Go.Proofs.YtimaoonpgilekaaDoor
