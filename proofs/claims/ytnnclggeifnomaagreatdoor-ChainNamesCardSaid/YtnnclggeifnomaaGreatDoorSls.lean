import Derived.Test.YtnnclggeifnomaaGreatDoorTagX
import Derived.Test.YtnnclggeifnomaaGreatDoorRf10
import Derived.Deep.OwnRows
set_option linter.all false
namespace Go.Proofs.YtnnclggeifnomaaGreatDoor
open Go.RowKit
set_option maxRecDepth 100000
theorem Zdg{P:Program}{α:Type}[Enc α]{S E:TypeId}{z:Value}{bytes:Nat}(hS:Slot P α S E z bytes){w:World}{ops:Array Oper}{rest:List Oper}{o:Oper}{a:Act}{Q:Exit→Act→World→Prop}(hg:Region.wanted o (yielded ops a.tmps)=true)
  (n:Nat) (parts:Array (Nat×Operand)) (hop:o.op=.buildSlice S n parts) (css:List (List Value)) (vs:List Value) (hn:css.length=n) (h0:0<n) (hsm:n * Enc.size α≤16777216) (hl:∀cs∈css,cs.length=Enc.size α) (hvs:vs.map (·.cells)=css.map (·.toArray))
  (hp:parts.toList.map (fun (i,x)=>(i,a.eval x))=(vs.zipIdx 0).map fun x=>(x.2,x.1))
  (hK:wpList P ops Q rest (a.put o.dst (.slice (some ⟨w.heap.size,0,none⟩) n n)) (w.alloc (.cells css.flatten.toArray E))):wpList P ops Q (o::rest) a w:=
 wpList_step fun _ hK2=>by
  rw[if_pos hg]
  have he:(parts.map fun (i,x)=>(i,a.eval x))=((vs.zipIdx 0).map fun x=>(x.2,x.1)).toArray:=by
   apply Array.ext'
   rw[Array.toList_map,hp]
  unfold Oper.wp execOp
  simp only[hop,he,Sem.run_bind,Zfg hS n css hn h0 hsm hl vs hvs w,Result.andThen_ok]
  exact hK2 _ _ hK
theorem ZaP:Slot Tryz.prog (List UInt8) 191 41 (.slice none 0 0) 24 where
 under:=Zfj
 info:=Zid
 zero:=rfl
 pos:=by decide
abbrev PtX:=Option Addr×Nat×List UInt8
def slV(p:PtX):Value:=.slice p.1 p.2.2.length p.2.1
def PtOk(w:World)(p:PtX):Prop:=Rd w p.1 p.2.2∧p.2.2.length≤p.2.1∧p.2.1≤maxLen
theorem Yc3{α β:Type}(f:α→β)(l:List α):(l.map fun p=>[f p]).flatten=l.map f:=by
 induction l with
 |nil=>rfl
 |cons a l ih=>simp only[List.map_cons,List.flatten_cons,ih,List.singleton_append]
theorem Zvd(w:World)(ps:List PtX)(t:TypeId)(h:∀p∈ps,PtOk w p):Rds (w.alloc (.cells ((ps.map fun p=>[slV p]).flatten).toArray t)) (some ⟨w.heap.size,0,none⟩) (ps.map (·.2.2)):=fun _=>by
 have hb:=Zad w (.cells ((ps.map fun p=>[slV p]).flatten).toArray t)
 refine⟨w.heap.size,0,rfl,fun j l hl=>?_⟩
 rw[List.getElem?_map]at hl
 cases hp:ps[j]? with
 |none=>rw[hp]at hl;cases hl
 |some p=>
  rw[hp]at hl
  injection hl with hl
  subst hl
  obtain⟨h1,h2,h3⟩:=h p (List.mem_of_getElem? hp)
  refine⟨p.1,p.2.1,?_,h1.bel hb,h2,h3⟩
  rw[cell_of_row _ _ _ _ t (0,0) (Vx0 w _),Yc3,List.getElem?_toArray,List.getElem?_map,Nat.zero_add,hp]
  rfl
theorem ZbX{w:World}{ops:Array Oper}{rest:List Oper}{o:Oper}{a:Act}{Q:Exit→Act→World→Prop}(hg:Region.wanted o (yielded ops a.tmps)=true)
  (n:Nat) (parts:Array (Nat×Operand)) (hop:o.op=.buildSlice 191 n parts) (ps:List PtX) (vs:List Value) (hv:vs=ps.map slV) (hn:ps.length=n) (h0:0<n) (hsm:n≤1000)
  (hp:parts.toList.map (fun (i,x)=>(i,a.eval x))=(vs.zipIdx 0).map fun x=>(x.2,x.1)) (hr:∀p∈ps,PtOk w p)
  (hK:∀g w',w.heap.size=g→Rds w' (some ⟨g,0,none⟩) (ps.map (·.2.2))→Below w.heap.size w w'→wpList Tryz.prog ops Q rest (a.put o.dst (.slice (some ⟨g,0,none⟩) n n)) w'):wpList Tryz.prog ops Q (o::rest) a w:=
 Zdg ZaP hg n parts hop (ps.map fun p=>[slV p]) vs (by rw[Vx6];exact hn) h0 (by show n * 1≤_;omega) (by intro cs hcs;obtain⟨p,-,rfl⟩:=List.mem_map.1 hcs;rfl) (by rw[hv,List.map_map,List.map_map];rfl) hp
  (hK _ _ rfl (Zvd w ps _ hr) (Zad _ _))
theorem ZfB{w:World}{ops:Array Oper}{o:Oper}{a:Act}{K:Act→World→Prop}{Q:Exit→Act→World→Prop}{X:Prop}(hg:Region.wanted o (yielded ops a.tmps)=true)
  (n:Nat) (parts:Array (Nat×Operand)) (hop:o.op=.buildSlice 191 n parts) (ps:List PtX) (vs:List Value) (hv:vs=ps.map slV) (hn:ps.length=n) (h0:0<n) (hsm:n≤1000)
  (hp:parts.toList.map (fun (i,x)=>(i,a.eval x))=(vs.zipIdx 0).map fun x=>(x.2,x.1)) (hr:∀p∈ps,PtOk w p)
  (hK:∀g w',w.heap.size=g→Rds w' (some ⟨g,0,none⟩) (ps.map (·.2.2))→Below w.heap.size w w'→K (a.put o.dst (.slice (some ⟨g,0,none⟩) n n)) w'):if Region.wanted o (yielded ops a.tmps)=true then Oper.wp Tryz.prog o a w K Q else X:=by
 rw[if_pos hg]
 have he:(parts.map fun (i,x)=>(i,a.eval x))=((vs.zipIdx 0).map fun x=>(x.2,x.1)).toArray:=by
  apply Array.ext'
  rw[Array.toList_map,hp]
 unfold Oper.wp execOp
 simp only[hop,he,Sem.run_bind,Zfg ZaP n (ps.map fun p=>[slV p]) (by rw[Vx6];exact hn) h0 (by show n * 1≤_;omega) (by intro cs hcs;obtain⟨p,-,rfl⟩:=List.mem_map.1 hcs;rfl) vs (by rw[hv,List.map_map,List.map_map];rfl) w,Result.andThen_ok]
 exact hK _ _ rfl (Zvd w ps _ hr) (Zad _ _)
theorem Zsv{w:World}{ops:Array Oper}{o:Oper}{a:Act}{K:Act→World→Prop}{Q:Exit→Act→World→Prop}{X:Prop}(hg:o.guard=none)
  (x:Operand) (hop:o.op=.buildSlice 41 1 #[(0,x)]) (b:UInt8) (hx:(a.eval x).cells=[bv b].toArray)
  (hK:∀g w',w.heap.size=g→Rd w' (some ⟨g,0,none⟩) [b]→Below w.heap.size w w'→K (a.put o.dst (.slice (some ⟨g,0,none⟩) 1 1)) w'):if Region.wanted o (yielded ops a.tmps)=true then Oper.wp Tryz.prog o a w K Q else X:=
 ZbE slotU8k (by decide) hg x hop [bv b] hx rfl (hK _ _ rfl (Rd.lit w 5 [b]) (Zad _ _))
end Go.Proofs.YtnnclggeifnomaaGreatDoor
