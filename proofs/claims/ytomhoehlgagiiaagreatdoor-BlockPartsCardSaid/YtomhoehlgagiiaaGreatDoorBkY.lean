import Derived.Test.YtomhoehlgagiiaaGreatDoorStX
import Derived.Test.YtomhoehlgagiiaaGreatDoorRf16
import Derived.Test.YtomhoehlgagiiaaGreatDoorBkX
import Derived.Test.YtomhoehlgagiiaaGreatDoorPuQ
import Derived.Test.YtomhoehlgagiiaaGreatDoorAcL
set_option maxRecDepth 100000
set_option linter.all false
namespace Go.Proofs.YtomhoehlgagiiaaGreatDoor
section
open Go.RowKit
structure Bd where
 ds:List Dp
 xs:List Tx
instance:Enc Bd:=Enc.by_ fun x=>(x.ds,x.xs)
theorem Zvg{F:Nat→Prop}{w:World}{x:Bd}{vs:List Value}(h:Enc.rep F w x vs):∃D d X e,vs=[.slice D x.ds.length d,.slice X x.xs.length e]∧(x.ds.length≤d∧d≤maxLen∧Row F w D x.ds)∧(x.xs.length≤e∧e≤maxLen∧Row F w X x.xs):=by
 obtain⟨u1,t1,rfl,⟨D,d,rfl,h4⟩,⟨X,e,rfl,h5⟩⟩:=h
 exact⟨D,d,X,e,rfl,h4,h5⟩
theorem YdO:Opens Tryz.prog 33 (List Dp):=Opens.slice Tryz.underlying33 (by kernel_rfl) opensDp
theorem YdR:Opens Tryz.prog 34 (List Tx):=Opens.slice Tryz.underlying34 (by kernel_rfl) opensTx
theorem opensBd:Opens Tryz.prog 36 Bd:=
 Opens.by_ (fun t:Bd=>(t.ds,t.xs)) (fun b=>⟨b.1,b.2⟩) (fun b=>rfl) (Opens.struct2 Tryz.underlying36 (by kernel_rfl) rfl rfl YdO YdR)
end
section
open Go.RowKit
def ApplyOk(t:Tr)(x:Hd)(ds:List Dp)(xs:List Tx)(box:Dg)(o:Tr):Prop:=if applyE t x ds xs box=0 then (mayA o=true∧allT o=applyL t x ds xs box∧o.ns.length≤t.ns.length+1200 * ds.length+1200 * xs.length∧∃r,o.ns=t.ns++r) else o=⟨[],0⟩
section
variable{t o:Tr}{x:Hd}{ds:List Dp}{xs:List Tx}{box:Dg}
theorem ZeI(h:applyE t x ds xs box=0):mayA t=true∧mayH x=true∧x.h≠1073741824∧ds.length≤16∧xs.length≤16∧madeE (allT t) ds xs box=0:=by
 unfold applyE at h
 split at h
 ·rename_i h1
  split at h
  ·rename_i h2
   split at h
   ·cases h
   ·rename_i h3
    split at h
    ·cases h
    ·rename_i h4
     split at h
     ·cases h
     ·rename_i h5
      simp only[decide_eq_true_eq]at h4 h5
      exact⟨h1,h2,fun e=>h3 (by rw[e];rfl),by omega,by omega,h⟩
  ·cases h
 ·cases h
theorem Zbx(h:applyE t x ds xs box=0):applyL t x ds xs box=payAll box (giveAll (allT t) ds) xs∧applyR t x ds xs box=giveRs (allT t) ds++payRs box (giveAll (allT t) ds) xs∧applyH t x ds xs box=headB x (payAll box (giveAll (allT t) ds) xs) (giveRs (allT t) ds++payRs box (giveAll (allT t) ds) xs):=by
 have hm:=(ZeI h).2.2.2.2.2
 have e1:madeL (allT t) ds xs box=payAll box (giveAll (allT t) ds) xs:=by unfold madeL;rw[if_pos hm]
 have e2:madeRs (allT t) ds xs box=giveRs (allT t) ds++payRs box (giveAll (allT t) ds) xs:=by unfold madeRs;rw[if_pos hm]
 refine⟨?_,?_,?_⟩
 ·unfold applyL;rw[if_pos h,e1]
 ·unfold applyR;rw[if_pos h,e2]
 ·unfold applyH;rw[if_pos h,e1,e2]
theorem Zc4(h:applyE t x ds xs box=0)(ho:ApplyOk t x ds xs box o):mayA o=true∧allT o=payAll box (giveAll (allT t) ds) xs∧o.ns.length≤t.ns.length+1200 * ds.length+1200 * xs.length∧∃r,o.ns=t.ns++r:=by
 unfold ApplyOk at ho
 rw[if_pos h,(Zbx h).1]at ho
 exact ho
theorem ZgK(h:applyE t x ds xs box=0):(applyR t x ds xs box).length=ds.length+xs.length:=by
 rw[(Zbx h).2.1,List.length_append,Zde,Zh3]
end
end
section
open Go.RowKit
def BkPost(t:Tr)(x:Hd)(ds:List Dp)(xs:List Tx)(box:Dg)(w:World)(e:Ending)(w':World):Prop:=∃(o:Tr) (A':Option Addr) (c':Nat) (R:Option Addr) (rc:Nat),
 e=.returned (.tuple #[.agg #[.slice A' o.ns.length c',.int .i64 o.root],.agg (hdC (applyH t x ds xs box)).toArray,.slice R (applyR t x ds xs box).length rc,.int .i64 (applyE t x ds xs box)])∧
 OwnR 124 w' w.heap.size A' c' o.ns∧OwnR 61 w' w.heap.size R rc (applyR t x ds xs box)∧Below w.heap.size w w'∧ApplyOk t x ds xs box o
def BkQ(z:Int)(H:Hd)(rs:List Rc)(P:Tr→Prop)(w:World)(e:Ending)(w':World):Prop:=∃(o:Tr) (A':Option Addr) (c':Nat) (R:Option Addr) (rc:Nat),
 e=.returned (.tuple #[.agg #[.slice A' o.ns.length c',.int .i64 o.root],.agg (hdC H).toArray,.slice R rs.length rc,.int .i64 z])∧
 OwnR 124 w' w.heap.size A' c' o.ns∧OwnR 61 w' w.heap.size R rc rs∧Below w.heap.size w w'∧P o
def zDpC:Array Value:=(dpC ⟨0,⟨List.replicate 32 0,rfl⟩,0⟩).toArray
theorem YbV:(Tryz.prog.info? 70).map (fun i=>(i.zero,i.size))=some (some (.agg zDpC),zDpC.size):=by kernel_rfl
theorem Ybj(x:Dp):(Tryz.prog.info? 70).map (·.size)=some (dpC x).toArray.size:=Zia x
theorem YbY(x:Dp):zDpC.size=(dpC x).toArray.size:=by
 show (dpC ⟨0,⟨List.replicate 32 0,rfl⟩,0⟩).toArray.size=_
 rw[List.size_toArray,List.size_toArray,ZoJ,ZoJ]
theorem Yad(x:Dp):(dpC x).toArray.all (·.oneCell')=true:=all_oneCell_toArray fun v hv=>by
 simp only[dpC,dpS,List.mem_flatten,List.mem_cons,List.not_mem_nil,or_false]at hv
 obtain⟨l,hl,hv⟩:=hv
 rcases hl with rfl|rfl|rfl
 ·simp at hv;subst hv;rfl
 ·exact Zbn _ v hv
 ·simp at hv;subst hv;rfl
theorem YaC:Places Tryz.prog 70 (.agg zDpC) [(0,1),(1,32),(33,1)]:=by unfold Places;kernel_rfl
theorem Zwo(d:Dg)(a:Nat):Tryz.prog.built 70 [(1,.agg (d.1.map bv).toArray),(2,.int .u64 (a:Int))]=some (dpC ⟨0,d,a⟩).toArray:=by
 rw[Za5 YaC]
 have h:=Zgp (place:=fun i=>([(0,1),(1,32),(33,1)]:List (Nat×Nat)).toArray[i]?) [z0.1.map bv,[.int .u64 0]] [.agg (d.1.map bv).toArray,.int .u64 (a:Int)] 1 [.int .u64 0] (by
  have lz:∀d:Dg,(d.1.map bv).length=32:=ZbO
  refine⟨?_,?_,?_,?_,trivial⟩<;>simp[lz,Value.cells])
 exact h
theorem ZmR(A:Option Addr)(n c:Nat):Tryz.prog.built 36 [(0,.slice A n c)]=some #[.slice A n c,.slice none 0 0]:=by kernel_rfl
theorem ZmQ:Tryz.prog.built 36 []=some #[.slice none 0 0,.slice none 0 0]:=by kernel_rfl
theorem YaE:Places Tryz.prog 61 (.agg zRcC) [(0,1),(1,32),(33,1)]:=by unfold Places;kernel_rfl
theorem ZmW{place:Nat→Option (Nat×Nat)}(post:List Value):∀(zs:List (List Value)) (vs:List Value) (k:Nat) (pre:List Value),FitsAt place k pre.length zs vs→
  Instr.fill place (pre++(zs.flatten++post)).toArray (partsFrom k vs)=some (pre++((vs.map fun v=>v.cells.toList).flatten++post)).toArray
 |[],[],k,pre,_=>by simp[partsFrom,Instr.fill]
 |z::zs,v::vs,k,pre,h=>by
  obtain⟨h1,h2,h3⟩:=h
  have hv:v.cells.toList.length=z.length:=by rw[Array.length_toList,h2]
  have ih:=ZmW post zs vs (k+1) (pre++v.cells.toList) (by rw[List.length_append,hv];exact h3)
  have hl:=Zbt pre z (zs.flatten++post) v.cells.toList hv
  show Instr.fill place (pre++((z::zs).flatten++post)).toArray ((k,v)::partsFrom (k+1) vs)=_
  rw[ZaQ (off:=pre.length) (by rw[h1,h2]) (by rw[h2];simp<;>omega)]
  simp only[List.flatten_cons,List.append_assoc]
  rw[hl,←List.append_assoc,ih]
  simp
 |[],_::_,_,_,h=>h.elim
 |_::_,[],_,_,h=>h.elim
theorem Zwr(k:UInt8)(d:Dg):Tryz.prog.built 61 [(0,bv k),(1,.agg (d.1.map bv).toArray)]=some (rcC ⟨k,d,0⟩).toArray:=by
 have lz:∀d:Dg,(d.1.map bv).length=32:=ZbO
 have hb:(bv k).cells=#[bv k]:=rfl
 have ha:(Value.agg (d.1.map bv).toArray).cells=(d.1.map bv).toArray:=rfl
 have hL:(Value.agg zRcC).cells=([]++([[bv 0],z0.1.map bv].flatten++[Value.int .i64 0])).toArray:=by
  show zRcC=_
  simp[zRcC,rcC,rcS,zR,z0]
 have h:=ZmW (place:=fun i=>([(0,1),(1,32),(33,1)]:List (Nat×Nat)).toArray[i]?) [.int .i64 0] [[bv 0],z0.1.map bv] [bv k,.agg (d.1.map bv).toArray] 0 [] ⟨rfl,rfl,by simp[lz],by simp[lz,ha],trivial⟩
 rw[Za5 YaE,hL]
 refine Eq.trans h ?_
 simp[rcC,rcS,hb,ha]
theorem Ybs(w:World)(x:Dp)(h:x.ok):Row (fun _=>True) (w.alloc (.cells (dpC x).toArray 70)) (some ⟨w.heap.size,0,none⟩) [x]:=fun _=>by
 refine⟨w.heap.size,0,rfl,trivial,by rw[World.size_alloc];exact Nat.lt_succ_self _,fun j y hy=>?_⟩
 rcases j with _|j
 ·simp at hy
  subst hy
  refine⟨dpC x,⟨[.int .u64 (x.n:Int)],x.t.1.map bv++[.int .u64 (x.a:Int)],by simp[dpC,dpS],⟨rfl,h.1⟩,x.t.1.map bv,[.int .u64 (x.a:Int)],rfl,rfl,⟨rfl,h.2⟩⟩,fun i v hv=>?_⟩
  rw[cell_of_row _ w.heap.size _ (dpC x).toArray _ (0,0) (heap_alloc_new w _)]
  simpa using hv
 ·simp at hy
theorem ZnP{w:World}{ops:Array Oper}{rest:List Oper}{o:Oper}{a:Act}{Q:Exit→Act→World→Prop}(hg:Region.wanted o (yielded ops a.tmps)=true)(x:Operand)(hop:o.op=.buildSlice 33 1 #[(0,x)])(d:Dp)(cs:List Value)(hcs:cs=dpC d)(hx:a.eval x=.agg cs.toArray)(hd:d.ok)
  (hK:∀g w',w.heap.size=g→Row (fun _=>True) w' (some ⟨g,0,none⟩) [d]→Below w.heap.size w w'→wpList Tryz.prog ops Q rest (a.put o.dst (.slice (some ⟨g,0,none⟩) 1 1)) w'):wpList Tryz.prog ops Q (o::rest) a w:=by
 subst hcs
 exact ZaC Ybp (by show 34≤16777216;decide) hg x hop (dpC d) (by rw[hx];rfl) (ZoJ d) (hK _ _ rfl (Ybs w d hd) (Zad _ _))
end
end Go.Proofs.YtomhoehlgagiiaaGreatDoor
