import Derived.Test.YtimaoonpgilekaaDoorAlive19
set_option linter.all false
namespace Go.Proofs.YtimaoonpgilekaaDoor
open Go.RowKit
set_option maxRecDepth 100000
theorem YqD{a:Int}(h:(Lit.int .u64 a).wf=true):∃k:Nat,a=(k:Int)∧k<18446744073709551616:=by
 simp[Lit.wf,IntKind.min,IntKind.max,IntKind.signed,IntKind.bits]at h
 exact⟨a.toNat,by omega,by omega⟩
theorem Ypk{w:World}{ops:Array Oper}{o:Oper}{a:Act}{K:Act→World→Prop}{Q:Exit→Act→World→Prop}{X:Prop}(hw:Region.wanted o (yielded ops a.tmps)=true)(s x:Operand)
  (hop:o.op=.call { callee:=.builtin .append,args:=#[s,x],argTypes:=#[24,24] })
  (B0 B:Nat) (A A2:Option Addr) (n m c c2:Nat) (xs ys:List Tx) (F2:Nat→Prop) (hs:a.eval s=.slice A n c) (hx:a.eval x=.slice A2 m c2) (hn:n=xs.length) (hm:m=ys.length)
  (ho:OwnQ 33 w B0 B A c xs) (hr:Src F2 w A2 ys) (hF:∀b,F2 b→B0≤b∧Soft w b∧∀a,A=some a→b≠a.block) (hlen:(xs.length+ys.length) * (120+1)≤140737488355328) (hB:B≤w.heap.size)
  (hK:∀A' c' w',OwnQ 33 w' B0 B A' c' (xs++ys)→Below B w w'→K (a.put o.dst (.slice A' (xs++ys).length c')) w'):
  if Region.wanted o (yielded ops a.tmps)=true then Oper.wp Tryd.prog o a w K Q else X:=by
 rw[if_pos hw]
 exact ZsM slotTxQ s x hop B0 B A A2 n m c c2 xs ys F2 hs hx hn hm ho hr hF hlen hB hK
theorem Ypq{w:World}{ops:Array Oper}{o:Oper}{a:Act}{K:Act→World→Prop}{Q:Exit→Act→World→Prop}{X:Prop}(hw:Region.wanted o (yielded ops a.tmps)=true)(hop:o.op=.buildSlice 24 0 #[])
  (hK:∀w',OwnR 33 w' w.heap.size (some ⟨w.heap.size,0,none⟩) 0 ([]:List Tx)→Below w.heap.size w w'→K (a.put o.dst (.slice (some ⟨w.heap.size,0,none⟩) 0 0)) w'):
  if Region.wanted o (yielded ops a.tmps)=true then Oper.wp Tryd.prog o a w K Q else X:=by
 rw[if_pos hw]
 obtain⟨i,hi,hz,hsz,hby⟩:=info_parts slotTxQ.info
 unfold Oper.wp execOp
 have e:(Instr.buildSlice 24 0 #[]).run Tryd.prog w=.ok (.slice (some ⟨w.heap.size,0,none⟩) 0 0) (w.alloc (.cells #[] 33)):=by
  simp[Instr.buildSlice,run_underlying slotTxQ.under,sizeOf,typeInfo,zeroValue,hi,newRow,Instr.fill]
  rw[show Array.map (fun x:Nat=>(default:Value)) (Array.range 0)=#[] from Array.eq_empty_of_size_eq_zero (by simp)]
 simp only[hop,List.map_toArray,List.map_nil,Sem.run_bind,e,Result.andThen_ok]
 exact hK _ (OwnR.emptyQ _ w) (Zad _ _)
end Go.Proofs.YtimaoonpgilekaaDoor
