import Derived.Test.YtnnclggeifnomaaGreatDoorBits
import Derived.DeepKeys
import Derived.Test.YtnnclggeifnomaaGreatDoorTrN
import Derived.WideShapes
import Derived.Carry
import Derived.Test.YtnnclggeifnomaaGreatDoorPureX
set_option maxRecDepth 100000
set_option linter.all false
namespace Go.Proofs.YtnnclggeifnomaaGreatDoor
open Go.RowKit
theorem Zzf{P:Program}{t:TypeId}(m:Nat)(hk:P.keyTypeAt m t=true)(hm:m≤10000){D D':Nat}{cs ds:List Value}{la lb:List Lit}(fa:(Value.agg cs.toArray).formed P t=true)(fb:(Value.agg ds.toArray).formed P t=true)
  (ha:P.keyLits D t cs=some la) (hb:P.keyLits D' t ds=some lb) (b:Bool) (h:b=true↔la=lb) (w:World):(Op.equalIn 10000 t (.agg cs.toArray) (.agg ds.toArray)).run P w=.ok b w:=by
 have hE:=run_equalIn_deep (P:=P) (10000-m) m t hk
 rw[show 10000-m+m=10000 by omega]at hE
 obtain⟨r,hr,hiff⟩:=hE w D D' (.agg cs.toArray) (.agg ds.toArray) la lb fa fb ha hb
 rw[hr]
 congr 1
 rw[Bool.eq_iff_iff,hiff,h]
def litU(n:Nat):Lit:=.int .u64 (n:Int)
def litI(n:Int):Lit:=.int .i64 n
def lit8(b:UInt8):Lit:=.int .u8 (b.toNat:Int)
theorem ZuU{a b:UInt8}(h:lit8 a=lit8 b):a=b:=by
 unfold lit8 at h
 injection h with _ h
 exact UInt8.toNat_inj.1 (by omega)
theorem ZzL{l m:List UInt8}(h:l.map lit8=m.map lit8):l=m:=List.map_inj_right (fun a b=>ZuU) |>.1 h
theorem Zhf{P:Program}{t:TypeId}(ht:P.underlying t=some (.int .u64))(d n:Nat)(hn:n<18446744073709551616):P.keyLits (d+1) t [.int .u64 (n:Int)]=some [litU n]:=by
 have hw:(Lit.int .u64 (n:Int)).wf=true:=by
  simp[Lit.wf,IntKind.min,IntKind.max,IntKind.signed,IntKind.bits]
  omega
 simp only[Program.keyLits,ht,hw,true_and,if_true]
 rfl
theorem Zna{P:Program}{t:TypeId}(ht:P.underlying t=some (.int .i64))(d:Nat)(n:Int)(h1: -9223372036854775808≤n)(h2:n≤9223372036854775807):P.keyLits (d+1) t [.int .i64 n]=some [litI n]:=by
 have hw:(Lit.int .i64 n).wf=true:=by
  simp[Lit.wf,IntKind.min,IntKind.max,IntKind.signed,IntKind.bits]
  omega
 simp only[Program.keyLits,ht,hw,true_and,if_true]
 rfl
theorem ZoH{P:Program}{t:TypeId}(ht:P.underlying t=some (.int .u8))(d:Nat)(b:UInt8):P.keyLits (d+1) t [bv b]=some [lit8 b]:=by
 have hb:=b.toNat_lt
 have hw:(Lit.int .u8 (b.toNat:Int)).wf=true:=by
  simp[Lit.wf,IntKind.min,IntKind.max,IntKind.signed,IntKind.bits]
  omega
 unfold bv
 simp only[Program.keyLits,ht,hw,true_and,if_true]
 rfl
theorem ZiQ{P : Program}{t : TypeId}{fs : Array Field}(ht : P.underlying t = some (.struct fs))(d : Nat)(cs : List Value)(hl : cs.length = P.cellsOf t)(hn : fs.all (·.name != "_") = true):
  P.keyLits (d+1) t cs=(fs.toList.mapM fun f=>P.keyLits d f.type ((cs.drop f.offset).take (P.cellsOf f.type))).map List.flatten:=by
 simp only[Program.keyLits,ht,hl,hn,and_self,if_true]
theorem mapM_some{α β:Type}(f:α→Option β)(g:α→β):∀l:List α,(∀ x∈l,f x=some (g x))→l.mapM f=some (l.map g)
 |[],_=>rfl
 |x::l,h=>by
  rw[List.mapM_cons,h x (List.mem_cons_self ..),mapM_some f g l fun y hy=>h y (List.mem_cons_of_mem _ hy)]
  rfl
theorem Zrq{α β:Type}(f:α→β):∀xs:List α,(xs.map fun i=>[f i]).flatten=xs.map f
 |[]=>rfl
 |x::xs=>by rw[List.map_cons,List.flatten_cons,Zrq f xs];rfl
theorem ZwE(l:List UInt8)(n:Nat)(h:l.length=n):((List.range n).map fun i=>[lit8 (l.getD i 0)]).flatten=l.map lit8:=by
 rw[Zrq]
 apply List.ext_getElem
 ·simp[h]
 ·intro i h1 h2
  have h3:i<l.length:=by simpa using h2
  simp[List.getD,h3]
set_option maxRecDepth 100000 in
theorem Ziu(d:Nat)(k:Dg):Tryz.prog.keyLits (d+2) 37 (k.1.map bv)=some (k.1.map lit8):=by
 have hl:(k.1.map bv).length=Tryz.prog.cellsOf 37:=by rw[Vx6,k.2];kernel_rfl
 have h8:Tryz.prog.cellsOf 5=1:=by kernel_rfl
 simp only[Program.keyLits,Tryz.underlying37,hl,if_true,h8,Nat.mul_one]
 rw[mapM_some _ (fun i=>[lit8 (k.1.getD i 0)])]
 ·simp only[Option.map_some]
  congr 1
  exact ZwE k.1 32 k.2
 ·intro i hi
  rw[List.mem_range]at hi
  have hi2:i<k.1.length:=by rw[k.2];exact hi
  have e:((k.1.map bv).drop i).take 1=[bv (k.1.getD i 0)]:=by
   rw[List.drop_eq_getElem_cons (by rw[Vx6];exact hi2)]
   simp[hi2]
  rw[e]
  exact ZoH Tryz.underlying5 d _
theorem Zan{w0 w4:World}{o:Obj}{k:Nat}(hk:k=w0.heap.size)(hb:(w0.alloc o).grownBy w4 (some k)):Below w0.heap.size w0 w4:=
 (Zad w0 o).grown hb (Zad w0 o).size (fun g e=>by injection e with e;omega)
theorem ZaA(a:Addr)(w:World):(Instr.sliceAt 37 (.pointer (some a)) none none none).run Tryz.prog w=.ok (.slice (some a) 32 32) w:=by
 have hu:=Tryz.underlying37
 have h:=run_sliceAt_array_all (P:=Tryz.prog) w 37 a (by rw[hu];rfl)
 rw[h]
 rfl
theorem ZbB{w:World}{b o:Nat}{k:Dg}(h:w.rangeAt b o (k.1.map bv)):Rd w (some ⟨b,o,none⟩) k.1:=fun _=>⟨b,o,rfl,fun j x hx=>h j (bv x) (by rw[List.getElem?_map,hx];rfl)⟩
theorem Za4{w:World}{g:Nat}{l:List UInt8}{t:TypeId}(h:w.heap[g]? =some (.cells (l.map bv).toArray t (0,0))):Rd w (some ⟨g,0,none⟩) l:=fun _=>⟨g,0,rfl,fun j x hx=>by
 rw[cell_of_row w g (0+j) _ t (0,0) h,Nat.zero_add,List.getElem?_toArray,List.getElem?_map,hx];rfl⟩
section
variable{P:Program}
theorem Zaj{ops:Array Oper}{o:Oper}{a:Act}{w:World}{K:Act→World→Prop}{Q:Exit→Act→World→Prop}{X:Prop}(hw:o.guard=none)(ty:TypeId)(x y:Operand)(ho:o.op=.store ty x y)
  (g:Nat) (cs:Array Value) (hx:a.eval x=.pointer (some ⟨g,0,none⟩)) (hy:a.eval y=.agg cs) (t:TypeId) (old:Array Value) (hg:w.heap[g]? =some (.cells old t (0,0)))
  (hi:(P.info? ty).map (·.size)=some cs.size) (hold:old.size=cs.size) (h1:cs.all (·.oneCell')=true)
  (h:∀w',w'.heap[g]? =some (.cells cs t (0,0))→w.grownBy w' (some g)→K (a.put o.dst undef) w'):if Region.wanted o (yielded ops a.tmps)=true then Oper.wp P o a w K Q else X:=by
 rw[if_pos (by simp[Region.wanted,hw])]
 exact wp_store_row ty x y ho g cs hx hy t old hg hi hold h1 fun w' h2 h3 _=>h w' h2 h3
theorem Zar{ops:Array Oper}{o:Oper}{a:Act}{w:World}{K:Act→World→Prop}{Q:Exit→Act→World→Prop}{X:Prop}(hw:o.guard=none)(ty:TypeId)(ho:o.op=.alloc ty)
  (zs:Array Value) (hz:(P.info? ty).map (fun i=>(i.zero,i.size))=some (some (.agg zs),zs.size))
  (h:∀g w',w.heap.size≤g→w'.heap[g]? =some (.cells zs ty (0,0))→Below w.heap.size w w'→K (a.put o.dst (.pointer (some ⟨g,0,none⟩))) w'):if Region.wanted o (yielded ops a.tmps)=true then Oper.wp P o a w K Q else X:=by
 rw[if_pos (by simp[Region.wanted,hw])]
 have hq:∃i,P.info? ty=some i∧i.zero=some (.agg zs):=by
  cases hq:P.info? ty with
  |none=>simp[hq]at hz
  |some i=>simp[hq]at hz;exact⟨i,rfl,hz.1⟩
 obtain⟨i,hi,hzz⟩:=hq
 unfold Oper.wp execOp
 simp only[ho]
 simp[Instr.alloc,zeroValue,typeInfo,hi,hzz,newVar,Value.cells]
 exact h _ _ (Vx8 _) (Vx0 w (.cells zs ty)) (Zad w _)
end
def zNdC:Array Value:=(ndC nd0 none 0).toArray
def zNd:Value:=.agg zNdC
def zTrC:Array Value:=#[.slice none 0 0,.int .i64 0]
theorem slotNd:Slot Tryz.prog Nd 22 106 zNd 80 where
 under:=Tryz.underlying22
 info:=by kernel_rfl
 zero:=by decide +kernel
 pos:=by decide
theorem Zbh:(Tryz.prog.info? 106).map (fun i=>(i.zero,i.size))=some (some (.agg zNdC),zNdC.size):=by kernel_rfl
theorem ZbY:zNdC.size=36:=by decide +kernel
theorem Zbd:(Tryz.prog.info? 106).map (·.size)=some 36:=by kernel_rfl
theorem Zas:(Tryz.prog.info? 24).map (fun i=>(i.zero,i.size))=some (some (.agg zTrC),zTrC.size):=by kernel_rfl
theorem Zah:(Tryz.prog.info? 24).map (·.size)=some 2:=by kernel_rfl
theorem Zes:Tryz.prog.built 37 []=some (z0.1.map bv).toArray:=by kernel_rfl
theorem Zaz(k:Dg):(Tryz.prog.info? 37).map (·.size)=some (k.1.map bv).length:=by rw[Vx6,k.2];exact Zai
section
variable{P:Program}{ops:Array Oper}{rest:List Oper}{o:Oper}{a:Act}{w:World}{Q:Exit→Act→World→Prop}
theorem run_storeVar_one(w:World)(g f:Nat)(ty:TypeId)(v:Value)(hv:v.cells=#[v])(h1:v.oneCell'=true)(ht:w.there g f 1)(hi:(P.info? ty).map (·.size)=some 1):
  (storeVar ty ⟨g,f,none⟩ v).run P w=.ok () (w.setCells g f [v]):=by
 have:=run_storeCells_cells (P:=P) g f [v] 0 w (fun j hj=>by simpa using (ht j (by simpa using hj)).1) (fun j hj=>by simpa using (ht j (by simpa using hj)).2) (fun u hu=>by simp at hu;subst hu;exact h1)
 cases hq:P.info? ty with
 |none=>simp[hq]at hi
 |some i=>
  have hs:i.size=1:=by simpa [hq] using hi
  simp only[Nat.add_zero]at this
  simp[storeVar,sizeOf,typeInfo,hq,hv,hs,this]
theorem Za8(hgd:o.guard=none)(ty:TypeId)(x y:Operand)(ho:o.op=.store ty x y)
  (g f:Nat) (v:Value) (cur:Array Value) (t:TypeId) (hx:a.eval x=.pointer (some ⟨g,f,none⟩)) (hy:a.eval y=v) (hv:v.cells=#[v]) (h1:v.oneCell'=true) (hg:w.heap[g]? =some (.cells cur t (0,0))) (hf:f<cur.size) (hi:(P.info? ty).map (·.size)=some 1)
  (h:∀w',w'.heap[g]? =some (.cells (cur.setIfInBounds f v) t (0,0))→Chg (fun b=>b=g) w w'→wpList P ops Q rest (a.put o.dst undef) w'):wpList P ops Q (o::rest) a w:=
 wpList_plain hgd fun _ hK=>by
  unfold Oper.wp execOp
  simp only[ho,hx,hy,Instr.storeAt,Instr.sureAddr,Sem.run_bind,Sem.run_pure,Result.andThen_ok,run_storeVar_one w g f ty v hv h1 (ZcB hg f 1 (by omega)) hi]
  exact hK _ _ (h _ (Zb8 [v] f w cur hg) (ZdT g f [v] w))
theorem ZbZ(hgd:o.guard=none)(ty:TypeId)(x y:Operand)(ho:o.op=.store ty x y)
  (g f:Nat) (cs:List Value) (cur:Array Value) (t:TypeId) (hx:a.eval x=.pointer (some ⟨g,f,none⟩)) (hy:a.eval y=.agg cs.toArray) (hg:w.heap[g]? =some (.cells cur t (0,0))) (hfit:f+cs.length≤cur.size)
  (hi:(P.info? ty).map (·.size)=some cs.length) (h1:cs.toArray.all (·.oneCell')=true)
  (h:∀w',w'.heap[g]? =some (.cells (setA cur f cs) t (0,0))→Chg (fun b=>b=g) w w'→wpList P ops Q rest (a.put o.dst undef) w'):wpList P ops Q (o::rest) a w:=
 wpList_store_mid hgd ty x y ho g f cs.toArray hx hy (ZcB hg f _ (by rw[Vx7];exact hfit)) (by rw[Vx7];exact hi) h1 (h _ (Zb8 cs f w cur hg) (ZdT g f cs w))
end
def partsFrom:Nat→List Value→List (Nat×Value)
 |_,[]=>[]
 |k,v::r=>(k,v)::partsFrom (k+1) r
def FitsAt(place:Nat→Option (Nat×Nat)):Nat→Nat→List (List Value)→List Value→Prop
 |_,_,[],[]=>True
 |k,off,z::zs,v::vs=>place k=some (off,z.length)∧v.cells.size=z.length∧FitsAt place (k+1) (off+z.length) zs vs
 |_,_,_,_=>False
theorem Zgp{place:Nat→Option (Nat×Nat)}:∀(zs:List (List Value)) (vs:List Value) (k:Nat) (pre:List Value),FitsAt place k pre.length zs vs→
  Instr.fill place (pre++zs.flatten).toArray (partsFrom k vs)=some (pre++(vs.map fun v=>v.cells.toList).flatten).toArray
 |[],[],k,pre,_=>by simp[partsFrom,Instr.fill]
 |z::zs,v::vs,k,pre,h=>by
  obtain⟨h1,h2,h3⟩:=h
  have hv:v.cells.toList.length=z.length:=by rw[Array.length_toList,h2]
  have ih:=Zgp zs vs (k+1) (pre++v.cells.toList) (by rw[Vx3,hv];exact h3)
  have hl:=Zbt pre z zs.flatten v.cells.toList hv
  show Instr.fill place (pre++(z::zs).flatten).toArray ((k,v)::partsFrom (k+1) vs)=_
  rw[ZaQ (off:=pre.length) (by rw[h1,h2]) (by rw[h2];simp)]
  simp only[List.flatten_cons]
  rw[hl,←List.append_assoc,ih]
  simp
 |[],_::_,_,_,h=>h.elim
 |_::_,[],_,_,h=>h.elim
theorem Zdx{W:World}{g:Nat}:∀(segs:List (List Value)) (o i:Nat) (hi:i<segs.length),W.rangeAt g o segs.flatten→W.rangeAt g (o+((segs.take i).flatten).length) segs[i]
 |s::segs,o,0,hi,h=>by
  intro j v hv
  have hv:s[j]? =some v:=hv
  have:=h j v (by rw[List.flatten_cons,List.getElem?_append_left (List.getElem?_eq_some_iff.1 hv).1];exact hv)
  simpa using this
 |s::segs,o,i+1,hi,h=>by
  have h2:W.rangeAt g (o+s.length) segs.flatten:=fun j v hv=>by
   have:=h (s.length+j) v (by rw[List.flatten_cons,List.getElem?_append_right (by omega),Nat.add_sub_cancel_left];exact hv)
   rw[Nat.add_assoc]
   exact this
  have ih:=Zdx segs (o+s.length) i (Nat.lt_of_succ_lt_succ hi) h2
  simp only[List.take_succ_cons,List.flatten_cons,Vx3,List.getElem_cons_succ]
  rw[← Nat.add_assoc]
  exact ih
 |[],_,_,hi,_=>absurd hi (by simp)
theorem ZiG(a b c vs:List Value)(h:vs.length=b.length):setA (a++(b++c)).toArray a.length vs=(a++(vs++c)).toArray:=by
 have h1:=ZiF vs a.length (a++(b++c)).toArray (by simp;omega)
 rw[List.toList_toArray,Zbt a b c vs h]at h1
 rw[← h1]
def FitsK(P:Program)(d:Nat):List Field→Nat→List (List Value)→List (List Lit)→Prop
 |[],_,[],[]=>True
 |f::fs,off,s::segs,l::lits=>f.offset=off∧P.cellsOf f.type=s.length∧P.keyLits d f.type s=some l∧FitsK P d fs (off+s.length) segs lits
 |_,_,_,_=>False
theorem Zm9{P:Program}{d:Nat}:∀(fs:List Field) (pre:List Value) (segs:List (List Value)) (lits:List (List Lit)),FitsK P d fs pre.length segs lits→
  (fs.mapM fun f=>P.keyLits d f.type (((pre++segs.flatten).drop f.offset).take (P.cellsOf f.type)))=some lits
 |[],pre,[],[],_=>rfl
 |f::fs,pre,s::segs,l::lits,h=>by
  obtain⟨h1,h2,h3,h4⟩:=h
  have ih:=Zm9 fs (pre++s) segs lits (by rw[Vx3];exact h4)
  rw[List.append_assoc]at ih
  rw[List.mapM_cons,List.flatten_cons,ih,h1,h2,List.drop_left,List.take_left,h3]
  rfl
 |[],_,_::_,_,h=>h.elim
 |[],_,[],_::_,h=>h.elim
 |_::_,_,[],_,h=>h.elim
 |_::_,_,_::_,[],h=>h.elim
theorem ZlB{P : Program}{t : TypeId}{fs : Array Field}(ht : P.underlying t = some (.struct fs))(d : Nat)(segs : List (List Value))(lits : List (List Lit))(hl : segs.flatten.length = P.cellsOf t)(hn : fs.all (·.name != "_") = true)(h : FitsK P d fs.toList 0 segs lits):
  P.keyLits (d+1) t segs.flatten=some lits.flatten:=by
 rw[ZiQ ht d _ hl hn]
 have:=Zm9 fs.toList [] segs lits h
 rw[List.nil_append]at this
 rw[this]
 rfl
theorem Zpp{P : Program}{t : TypeId}{fs : Array Field}(ht : P.underlying t = some (.struct fs))(m : Nat)(hk : P.keyTypeAt m t = true)(hm : m ≤ 10000)(d : Nat)(s1 s2 : List (List Value))(l1 l2 : List (List Lit))(h1 : s1.flatten.length = P.cellsOf t)(h2 : s2.flatten.length = P.cellsOf t)(hn : fs.all (·.name != "_") = true)
  (f1:FitsK P d fs.toList 0 s1 l1) (f2:FitsK P d fs.toList 0 s2 l2) (b:Bool) (h:b=true↔l1.flatten=l2.flatten) (w:World):
  (Op.equalIn 10000 t (.agg s1.flatten.toArray) (.agg s2.flatten.toArray)).run P w=.ok b w:=by
 have hf:∀s:List (List Value),s.flatten.length=P.cellsOf t→(Value.agg s.flatten.toArray).formed P t=true:=fun s hs=>by
  simp only[Value.formed,ht]
  simp[hs]
 exact Zzf m hk hm (hf s1 h1) (hf s2 h2) (ZlB ht d s1 l1 h1 hn f1) (ZlB ht d s2 l2 h2 hn f2) b h w
instance:Enc Ac:=Enc.by_ fun a=>(a.n,a.b)
def acC(a:Ac):List Value:=[.int .u64 (a.n:Int),.int .u64 (a.b:Int)]
theorem ZaM:(Tryz.prog.info? 130).map (·.size)=some 2:=by kernel_rfl
theorem ZyP:Tryz.prog.cellsOf 130=2:=by kernel_rfl
theorem ZaZ:(Tryz.prog.info? 130).map (fun i=>(i.zero,i.size))=some (some (.agg (acC ac0).toArray),(acC ac0).toArray.size):=by kernel_rfl
theorem Zl1(n b:Nat):Tryz.prog.built 130 [(0,.int .u64 (n:Int)),(1,.int .u64 (b:Int))]=some (acC ⟨n,b⟩).toArray:=by rfl
theorem Zer:Tryz.prog.built 130 []=some (acC ac0).toArray:=by kernel_rfl
theorem ZbW(a:Ac):(acC a).toArray.all (·.oneCell')=true:=all_oneCell_toArray (cs:=acC a) fun u hu=>by
 simp only[acC,List.mem_cons,List.not_mem_nil,or_false]at hu
 rcases hu with rfl|rfl<;>rfl
def litsAc(a:Ac):List Lit:=[litU a.n,litU a.b]
theorem ZwU{a c:Ac}:litsAc a=litsAc c↔a=c:=by
 constructor
 ·intro h
  unfold litsAc litU at h
  injection h with h1 h2
  injection h2 with h2 _
  injection h1 with _ h1
  injection h2 with _ h2
  exact Zuo (by omega) (by omega)
 ·rintro rfl;rfl
theorem ZoG(a:Ac)(h:a.ok):Tryz.prog.keyLits 3 130 (acC a)=some (litsAc a):=by
 have h1:=Zhf Tryz.underlying128 1 a.n h.1
 have h2:=Zhf Tryz.underlying128 1 a.b h.2
 have c8:Tryz.prog.cellsOf 128=1:=by kernel_rfl
 have hl:(acC a).length=Tryz.prog.cellsOf 130:=by rw[ZyP];rfl
 rw[ZiQ Tryz.underlying130 2 (acC a) hl (by decide +kernel)]
 simp only[List.mapM_cons,List.mapM_nil,acC,List.drop_zero,List.drop_succ_cons,List.take_succ_cons,List.take_zero,c8,h1,h2]
 rfl
theorem ZgB(a c:Ac)(ha:a.ok)(hc:c.ok)(b:Bool)(h:decide (a=c)=b)(w:World):
  (Op.equalIn 10000 130 (.agg (acC a).toArray) (.agg (acC c).toArray)).run Tryz.prog w=.ok b w:=by
 have hf:∀x:Ac,(Value.agg (acC x).toArray).formed Tryz.prog 130=true:=fun x=>by
  simp[Value.formed,Tryz.underlying130,ZyP,acC]
 exact Zzf 3 (by decide +kernel) (by decide) (hf a) (hf c) (ZoG a ha) (ZoG c hc) b (by rw[ZwU,←h,decide_eq_true_eq]) w
def txS(x:Tx):List (List Value):=[x.p.1.map bv,x.t.1.map bv,[.int .u64 (x.n:Int)],[.int .u64 (x.a:Int)],[.int .u64 (x.f:Int)],x.s.1.map bv]
def txC(x:Tx):List Value:=(txS x).flatten
theorem ZbO(d:Dg):(d.1.map bv).length=32:=by rw[Vx6];exact d.2
theorem ZgR(x:Tx):(txC x).length=99:=by simp[txC,txS,x.p.2,x.t.2,x.s.2]
instance:Enc Tx:=Enc.by_ fun x=>(x.p,x.t,x.n,x.a,x.f,x.s)
theorem ZlF{F:Nat→Prop}{w:World}{x:Tx}{vs:List Value}(h:Enc.rep F w x vs):vs=txC x∧x.ok:=by
 obtain⟨u1,t1,rfl,h1,u2,t2,rfl,h2,u3,t3,rfl,⟨h3,b3⟩,u4,t4,rfl,⟨h4,b4⟩,u5,t5,rfl,⟨h5,b5⟩,h6⟩:=h
 have h1:u1=x.p.1.map bv:=h1
 have h2:u2=x.t.1.map bv:=h2
 have h6:t5=x.s.1.map bv:=h6
 subst h1 h2 h3 h4 h5 h6
 exact⟨by simp[txC,txS],b3,b4,b5⟩
theorem Zby(x:Tx):(Tryz.prog.info? 145).map (·.size)=some (txC x).length:=by rw[ZgR];kernel_rfl
theorem Zb2(x:Tx):(Tryz.prog.info? 145).map (·.size)=some (txC x).toArray.size:=Zby x
theorem ZyT:Tryz.prog.cellsOf 145=99:=by kernel_rfl
def zTxC:Array Value:=(txC zX).toArray
theorem Zbv:(Tryz.prog.info? 145).map (fun i=>(i.zero,i.size))=some (some (.agg zTxC),zTxC.size):=by kernel_rfl
theorem ZcS(x:Tx):zTxC.size=(txC x).toArray.size:=by
 show (txC zX).toArray.size=_
 rw[Vx7,Vx7,ZgR,ZgR]
theorem Zdw(x:Tx):(txC x).toArray.all (·.oneCell')=true:=all_oneCell_toArray fun v hv=>by
 simp only[txC,txS,List.mem_flatten,List.mem_cons,List.not_mem_nil,or_false]at hv
 obtain⟨l,hl,hv⟩:=hv
 rcases hl with rfl|rfl|rfl|rfl|rfl|rfl
 ·exact Zbn _ v hv
 ·exact Zbn _ v hv
 ·simp at hv;subst hv;rfl
 ·simp at hv;subst hv;rfl
 ·simp at hv;subst hv;rfl
 ·exact Zbn _ v hv
structure BoxX (W:World) (g:Nat) (x:Tx):Prop where
 all:W.rangeAt g 0 (txC x)
 p:W.rangeAt g 0 (x.p.1.map bv)
 t:W.rangeAt g 32 (x.t.1.map bv)
 n:W.cell? ⟨g,64,none⟩=some (.int .u64 (x.n:Int))
 a:W.cell? ⟨g,65,none⟩=some (.int .u64 (x.a:Int))
 f:W.cell? ⟨g,66,none⟩=some (.int .u64 (x.f:Int))
 s:W.rangeAt g 67 (x.s.1.map bv)
theorem BoxX.of{W:World}{g:Nat}{x:Tx}(h:W.rangeAt g 0 (txC x)):BoxX W g x:=by
 have hr:=fun i (hi:i<(txS x).length)=>Zdx (txS x) 0 i hi h
 have h0:=hr 0 (by simp[txS])
 have h1:=hr 1 (by simp[txS])
 have h2:=hr 2 (by simp[txS])
 have h3:=hr 3 (by simp[txS])
 have h4:=hr 4 (by simp[txS])
 have h5:=hr 5 (by simp[txS])
 simp[txS,x.p.2,x.t.2]at h0 h1 h2 h3 h4 h5
 exact⟨h,h0,h1,h2 0 _ rfl,h3 0 _ rfl,h4 0 _ rfl,h5⟩
theorem BoxX.bel{W W':World}{g:Nat}{x:Tx}(h:BoxX W g x)(hb:Below W.heap.size W W'):BoxX W' g x:=BoxX.of (Zab hb h.all)
theorem BoxX.new(W:World)(x:Tx)(t:TypeId):BoxX (W.alloc (.cells (txC x).toArray t)) W.heap.size x:=BoxX.of (Zae (Vx0 W _))
theorem Zh7(x:Tx)(d:Dg):setA (txC x).toArray 67 (d.1.map bv)=(txC { x with s:=d }).toArray:=by
 have h:=ZiG (x.p.1.map bv++(x.t.1.map bv++[.int .u64 (x.n:Int),.int .u64 (x.a:Int),.int .u64 (x.f:Int)])) (x.s.1.map bv) [] (d.1.map bv) (by rw[ZbO,ZbO])
 rw[show (x.p.1.map bv++(x.t.1.map bv++[Value.int .u64 (x.n:Int),.int .u64 (x.a:Int),.int .u64 (x.f:Int)])).length=67 by simp[x.p.2,x.t.2]]at h
 have e1:txC x=x.p.1.map bv++(x.t.1.map bv++[.int .u64 (x.n:Int),.int .u64 (x.a:Int),.int .u64 (x.f:Int)])++(x.s.1.map bv++[]):=by simp[txC,txS]
 have e2:txC { x with s:=d }=x.p.1.map bv++(x.t.1.map bv++[.int .u64 (x.n:Int),.int .u64 (x.a:Int),.int .u64 (x.f:Int)])++(d.1.map bv++[]):=by simp[txC,txS]
 rw[e1,e2]
 exact h
def txL(x:Tx):List (List Lit):=[x.p.1.map lit8,x.t.1.map lit8,[litU x.n],[litU x.a],[litU x.f],x.s.1.map lit8]
theorem ZdI{α:Type}{a b c d:List α}(h:a.length=c.length):a++b=c++d↔a=c∧b=d:=⟨fun e=>List.append_inj e h,fun ⟨e1,e2⟩=>by rw[e1,e2]⟩
theorem ZjV{a b:Nat}:litU a=litU b↔a=b:=⟨fun h=>by unfold litU at h;injection h with _ h;omega,fun h=>by rw[h]⟩
theorem ZhQ{a b:Dg}:a.1.map lit8=b.1.map lit8↔a=b:=⟨fun h=>Subtype.ext (ZzL h),fun h=>by rw[h]⟩
theorem Yjo{x y:Tx}(h1:x.p=y.p)(h2:x.t=y.t)(h3:x.n=y.n)(h4:x.a=y.a)(h5:x.f=y.f)(h6:x.s=y.s):x=y:=by cases x;cases y;simp_all
theorem YhN{x y:Tx}:(txL x).flatten=(txL y).flatten↔x=y:=by
 constructor
 ·intro h
  simp only[txL,List.flatten_cons,List.flatten_nil,List.append_nil]at h
  obtain⟨h1,h⟩:=(ZdI (by simp[x.p.2,y.p.2])).1 h
  obtain⟨h2,h⟩:=(ZdI (by simp[x.t.2,y.t.2])).1 h
  obtain⟨h3,h⟩:=(ZdI (by rfl)).1 h
  obtain⟨h4,h⟩:=(ZdI (by rfl)).1 h
  obtain⟨h5,h6⟩:=(ZdI (by rfl)).1 h
  simp only[List.cons.injEq,and_true]at h3 h4 h5
  exact Yjo (ZhQ.1 h1) (ZhQ.1 h2) (ZjV.1 h3) (ZjV.1 h4) (ZjV.1 h5) (ZhQ.1 h6)
 ·rintro rfl;rfl
theorem Yfa(x:Tx)(h:x.ok):FitsK Tryz.prog 3 (Tryz.prog.fieldsOf 145).toList 0 (txS x) (txL x):=by
 have c8:Tryz.prog.cellsOf 128=1:=by kernel_rfl
 have cd:Tryz.prog.cellsOf 37=32:=by kernel_rfl
 have ku:=fun n hn=>Zhf Tryz.underlying128 2 n hn
 have kd:=fun d:Dg=>Ziu 1 d
 have hf:(Tryz.prog.fieldsOf 145).toList=(match Tryz.prog.underlying 145 with|some (.struct fs)=>fs|_=>#[]).toList:=by kernel_rfl
 rw[hf,Tryz.underlying145]
 simp only[txS,txL,FitsK,c8,cd,ZbO,ku _ h.1,ku _ h.2.1,ku _ h.2.2,kd]
 simp
theorem Zfm(x y:Tx)(hx:x.ok)(hy:y.ok)(b:Bool)(h:decide (x=y)=b)(w:World):
  (Op.equalIn 10000 145 (.agg (txC x).toArray) (.agg (txC y).toArray)).run Tryz.prog w=.ok b w:=by
 have hu:Tryz.prog.underlying 145=some (.struct (Tryz.prog.fieldsOf 145)):=by kernel_rfl
 exact Zpp hu 4 (by decide +kernel) (by decide) 3 (txS x) (txS y) (txL x) (txL y) (by rw[ZyT];exact ZgR x) (by rw[ZyT];exact ZgR y) (by decide +kernel) (Yfa x hx) (Yfa y hy) b (by rw[YhN,←h,decide_eq_true_eq]) w
def hdS(x:Hd):List (List Value):=[[.int .i64 x.h],x.p.1.map bv,x.s.1.map bv,x.r.1.map bv,[.int .i64 x.m]]
def hdC(x:Hd):List Value:=(hdS x).flatten
theorem ZlC(x:Hd):(hdC x).length=98:=by simp[hdC,hdS,x.p.2,x.s.2,x.r.2]
instance:Enc Hd:=Enc.by_ fun x=>(x.h,x.p,x.s,x.r,x.m)
def Hd.ok(x:Hd):Prop:=(-9223372036854775808≤x.h∧x.h≤9223372036854775807)∧(-9223372036854775808≤x.m∧x.m≤9223372036854775807)
theorem ZiR{F:Nat→Prop}{w:World}{x:Hd}{vs:List Value}(h:Enc.rep F w x vs):vs=hdC x∧x.ok:=by
 obtain⟨u1,t1,rfl,⟨h1,b1⟩,u2,t2,rfl,h2,u3,t3,rfl,h3,u4,t4,rfl,h4,⟨h5,b5⟩⟩:=h
 have h2:u2=x.p.1.map bv:=h2
 have h3:u3=x.s.1.map bv:=h3
 have h4:u4=x.r.1.map bv:=h4
 subst h1 h2 h3 h4 h5
 exact⟨by simp[hdC,hdS],b1,b5⟩
theorem Zbu(x:Hd):(Tryz.prog.info? 51).map (·.size)=some (hdC x).length:=by rw[ZlC];kernel_rfl
theorem Zbg(x:Hd):(Tryz.prog.info? 51).map (·.size)=some (hdC x).toArray.size:=Zbu x
theorem ZyR:Tryz.prog.cellsOf 51=98:=by kernel_rfl
def zHdC:Array Value:=(hdC zH).toArray
theorem Za9:(Tryz.prog.info? 51).map (fun i=>(i.zero,i.size))=some (some (.agg zHdC),zHdC.size):=by kernel_rfl
theorem Zbw(x:Hd):zHdC.size=(hdC x).toArray.size:=by
 show (hdC zH).toArray.size=_
 rw[Vx7,Vx7,ZlC,ZlC]
theorem ZbM(x:Hd):(hdC x).toArray.all (·.oneCell')=true:=all_oneCell_toArray fun v hv=>by
 simp only[hdC,hdS,List.mem_flatten,List.mem_cons,List.not_mem_nil,or_false]at hv
 obtain⟨l,hl,hv⟩:=hv
 rcases hl with rfl|rfl|rfl|rfl|rfl
 ·simp at hv;subst hv;rfl
 ·exact Zbn _ v hv
 ·exact Zbn _ v hv
 ·exact Zbn _ v hv
 ·simp at hv;subst hv;rfl
def zHd:Value:=.agg zHdC
theorem Zu7:Places Tryz.prog 51 zHd [(0,1),(1,32),(33,32),(65,32),(97,1)]:=by unfold Places;kernel_rfl
theorem Zl2(x:Hd):Tryz.prog.built 51 [(0,.int .i64 x.h),(1,.agg (x.p.1.map bv).toArray),(2,.agg (x.s.1.map bv).toArray),(3,.agg (x.r.1.map bv).toArray),(4,.int .i64 x.m)]=some (hdC x).toArray:=by
 rw[Za5 Zu7]
 have h:=Zgp (place:=fun i=>([(0,1),(1,32),(33,32),(65,32),(97,1)]:List (Nat×Nat)).toArray[i]?) (hdS zH) [.int .i64 x.h,.agg (x.p.1.map bv).toArray,.agg (x.s.1.map bv).toArray,.agg (x.r.1.map bv).toArray,.int .i64 x.m] 0 [] (by
  have lz:∀d:Dg,(d.1.map bv).length=32:=ZbO
  refine⟨?_,?_,?_,?_,?_,?_,?_,?_,?_,?_,trivial⟩<;>simp[lz,Value.cells,zH])
 exact h
theorem Zcc:Tryz.prog.built 51 []=some zHdC:=by kernel_rfl
structure BoxH (W:World) (g:Nat) (x:Hd):Prop where
 all:W.rangeAt g 0 (hdC x)
 h:W.cell? ⟨g,0,none⟩=some (.int .i64 x.h)
 p:W.rangeAt g 1 (x.p.1.map bv)
 s:W.rangeAt g 33 (x.s.1.map bv)
 r:W.rangeAt g 65 (x.r.1.map bv)
 m:W.cell? ⟨g,97,none⟩=some (.int .i64 x.m)
theorem BoxH.of{W:World}{g:Nat}{x:Hd}(h:W.rangeAt g 0 (hdC x)):BoxH W g x:=by
 have hr:=fun i (hi:i<(hdS x).length)=>Zdx (hdS x) 0 i hi h
 have h0:=hr 0 (by simp[hdS])
 have h1:=hr 1 (by simp[hdS])
 have h2:=hr 2 (by simp[hdS])
 have h3:=hr 3 (by simp[hdS])
 have h4:=hr 4 (by simp[hdS])
 simp[hdS,x.p.2,x.s.2,x.r.2]at h0 h1 h2 h3 h4
 exact⟨h,h0 0 _ rfl,h1,h2,h3,h4 0 _ rfl⟩
theorem BoxH.bel{W W':World}{g:Nat}{x:Hd}(h:BoxH W g x)(hb:Below W.heap.size W W'):BoxH W' g x:=BoxH.of (Zab hb h.all)
theorem BoxH.new(W:World)(x:Hd)(t:TypeId):BoxH (W.alloc (.cells (hdC x).toArray t)) W.heap.size x:=BoxH.of (Zae (Vx0 W _))
def hdL(x:Hd):List (List Lit):=[[litI x.h],x.p.1.map lit8,x.s.1.map lit8,x.r.1.map lit8,[litI x.m]]
theorem ZpB{a b:Int}:litI a=litI b↔a=b:=⟨fun h=>by unfold litI at h;injection h with _ h,fun h=>by rw[h]⟩
theorem YiA{x y:Hd}(h1:x.h=y.h)(h2:x.p=y.p)(h3:x.s=y.s)(h4:x.r=y.r)(h5:x.m=y.m):x=y:=by cases x;cases y;simp_all
theorem YgE{x y:Hd}:(hdL x).flatten=(hdL y).flatten↔x=y:=by
 constructor
 ·intro h
  simp only[hdL,List.flatten_cons,List.flatten_nil,List.append_nil]at h
  obtain⟨h1,h⟩:=(ZdI (by rfl)).1 h
  obtain⟨h2,h⟩:=(ZdI (by simp[x.p.2,y.p.2])).1 h
  obtain⟨h3,h⟩:=(ZdI (by simp[x.s.2,y.s.2])).1 h
  obtain⟨h4,h5⟩:=(ZdI (by simp[x.r.2,y.r.2])).1 h
  simp only[List.cons.injEq,and_true]at h1 h5
  exact YiA (ZpB.1 h1) (ZhQ.1 h2) (ZhQ.1 h3) (ZhQ.1 h4) (ZpB.1 h5)
 ·rintro rfl;rfl
theorem Ye8(x:Hd)(h:x.ok):FitsK Tryz.prog 3 (Tryz.prog.fieldsOf 51).toList 0 (hdS x) (hdL x):=by
 have c8:Tryz.prog.cellsOf 3=1:=by kernel_rfl
 have cd:Tryz.prog.cellsOf 37=32:=by kernel_rfl
 have ki:=fun n h1 h2=>Zna Tryz.underlying3 2 n h1 h2
 have kd:=fun d:Dg=>Ziu 1 d
 have hf:(Tryz.prog.fieldsOf 51).toList=(match Tryz.prog.underlying 51 with|some (.struct fs)=>fs|_=>#[]).toList:=by kernel_rfl
 rw[hf,Tryz.underlying51]
 simp only[hdS,hdL,FitsK,c8,cd,ZbO,ki _ h.1.1 h.1.2,ki _ h.2.1 h.2.2,kd]
 simp
theorem ZhR(x y:Hd)(hx:x.ok)(hy:y.ok)(b:Bool)(h:decide (x=y)=b)(w:World):
  (Op.equalIn 10000 51 (.agg (hdC x).toArray) (.agg (hdC y).toArray)).run Tryz.prog w=.ok b w:=by
 have hu:Tryz.prog.underlying 51=some (.struct (Tryz.prog.fieldsOf 51)):=by kernel_rfl
 exact Zpp hu 4 (by decide +kernel) (by decide) 3 (hdS x) (hdS y) (hdL x) (hdL y) (by rw[ZyR];exact ZlC x) (by rw[ZyR];exact ZlC y) (by decide +kernel) (Ye8 x hx) (Ye8 y hy) b (by rw[YgE,←h,decide_eq_true_eq]) w
def dpS(x:Dp):List (List Value):=[[.int .u64 (x.n:Int)],x.t.1.map bv,[.int .u64 (x.a:Int)]]
def dpC(x:Dp):List Value:=(dpS x).flatten
theorem ZoJ(x:Dp):(dpC x).length=34:=by simp[dpC,dpS,x.t.2]
instance:Enc Dp:=Enc.by_ fun x=>(x.n,x.t,x.a)
theorem Zvh{F:Nat→Prop}{w:World}{x:Dp}{vs:List Value}(h:Enc.rep F w x vs):vs=dpC x∧x.ok:=by
 obtain⟨u1,t1,rfl,⟨h1,b1⟩,u2,t2,rfl,h2,⟨h3,b3⟩⟩:=h
 have h2:u2=x.t.1.map bv:=h2
 subst h1 h2 h3
 exact⟨by simp[dpC,dpS],b1,b3⟩
theorem Zia(x:Dp):(Tryz.prog.info? 142).map (·.size)=some (dpC x).length:=by rw[ZoJ];kernel_rfl
structure BoxD (W:World) (g:Nat) (x:Dp):Prop where
 all:W.rangeAt g 0 (dpC x)
 n:W.cell? ⟨g,0,none⟩=some (.int .u64 (x.n:Int))
 t:W.rangeAt g 1 (x.t.1.map bv)
 a:W.cell? ⟨g,33,none⟩=some (.int .u64 (x.a:Int))
theorem BoxD.of{W:World}{g:Nat}{x:Dp}(h:W.rangeAt g 0 (dpC x)):BoxD W g x:=by
 have hr:=fun i (hi:i<(dpS x).length)=>Zdx (dpS x) 0 i hi h
 have h0:=hr 0 (by simp[dpS])
 have h1:=hr 1 (by simp[dpS])
 have h2:=hr 2 (by simp[dpS])
 simp[dpS,x.t.2]at h0 h1 h2
 exact⟨h,h0 0 _ rfl,h1,h2 0 _ rfl⟩
theorem BoxD.bel{W W':World}{g:Nat}{x:Dp}(h:BoxD W g x)(hb:Below W.heap.size W W'):BoxD W' g x:=BoxD.of (Zab hb h.all)
theorem BoxD.new(W:World)(x:Dp)(t:TypeId):BoxD (W.alloc (.cells (dpC x).toArray t)) W.heap.size x:=BoxD.of (Zae (Vx0 W _))
def rcS(x:Rc):List (List Value):=[[bv x.k],x.i.1.map bv,[.int .i64 x.c]]
def rcC(x:Rc):List Value:=(rcS x).flatten
theorem ZhW(x:Rc):(rcC x).length=34:=by simp[rcC,rcS,x.i.2]
instance:Enc Rc:=Enc.by_ fun x=>(x.k,x.i,x.c)
def Rc.ok(x:Rc):Prop:= -9223372036854775808≤x.c∧x.c≤9223372036854775807
theorem Zr6{F:Nat→Prop}{w:World}{x:Rc}{vs:List Value}(h:Enc.rep F w x vs):vs=rcC x∧x.ok:=by
 obtain⟨u1,t1,rfl,h1,u2,t2,rfl,h2,⟨h3,b3⟩⟩:=h
 have h1:u1=[bv x.k]:=h1
 have h2:u2=x.i.1.map bv:=h2
 subst h1 h2 h3
 exact⟨by simp[rcC,rcS],b3⟩
theorem ZdM(x:Rc):(Tryz.prog.info? 148).map (·.size)=some (rcC x).length:=by rw[ZhW];kernel_rfl
theorem Zcg(x:Rc):(Tryz.prog.info? 148).map (·.size)=some (rcC x).toArray.size:=ZdM x
theorem ZyS:Tryz.prog.cellsOf 148=34:=by kernel_rfl
def zRcC:Array Value:=(rcC zR).toArray
theorem ZbQ:(Tryz.prog.info? 148).map (fun i=>(i.zero,i.size))=some (some (.agg zRcC),zRcC.size):=by kernel_rfl
theorem Zdj(x:Rc):zRcC.size=(rcC x).toArray.size:=by
 show (rcC zR).toArray.size=_
 rw[Vx7,Vx7,ZhW,ZhW]
theorem ZdU(x:Rc):(rcC x).toArray.all (·.oneCell')=true:=all_oneCell_toArray fun v hv=>by
 simp only[rcC,rcS,List.mem_flatten,List.mem_cons,List.not_mem_nil,or_false]at hv
 obtain⟨l,hl,hv⟩:=hv
 rcases hl with rfl|rfl|rfl
 ·simp at hv;subst hv;rfl
 ·exact Zbn _ v hv
 ·simp at hv;subst hv;rfl
theorem Zu8:Places Tryz.prog 148 (.agg zRcC) [(0,1),(1,32),(33,1)]:=by unfold Places;kernel_rfl
structure BoxR (W:World) (g:Nat) (x:Rc):Prop where
 all:W.rangeAt g 0 (rcC x)
 k:W.cell? ⟨g,0,none⟩=some (bv x.k)
 i:W.rangeAt g 1 (x.i.1.map bv)
 c:W.cell? ⟨g,33,none⟩=some (.int .i64 x.c)
theorem BoxR.of{W:World}{g:Nat}{x:Rc}(h:W.rangeAt g 0 (rcC x)):BoxR W g x:=by
 have hr:=fun i (hi:i<(rcS x).length)=>Zdx (rcS x) 0 i hi h
 have h0:=hr 0 (by simp[rcS])
 have h1:=hr 1 (by simp[rcS])
 have h2:=hr 2 (by simp[rcS])
 simp[rcS,x.i.2]at h0 h1 h2
 exact⟨h,h0 0 _ rfl,h1,h2 0 _ rfl⟩
theorem BoxR.bel{W W':World}{g:Nat}{x:Rc}(h:BoxR W g x)(hb:Below W.heap.size W W'):BoxR W' g x:=BoxR.of (Zab hb h.all)
theorem BoxR.new(W:World)(x:Rc)(t:TypeId):BoxR (W.alloc (.cells (rcC x).toArray t)) W.heap.size x:=BoxR.of (Zae (Vx0 W _))
def rcL(x:Rc):List (List Lit):=[[lit8 x.k],x.i.1.map lit8,[litI x.c]]
theorem YaG{x y:Rc}(h1:x.k=y.k)(h2:x.i=y.i)(h3:x.c=y.c):x=y:=by cases x;cases y;simp_all
theorem Yhh{x y:Rc}:(rcL x).flatten=(rcL y).flatten↔x=y:=by
 constructor
 ·intro h
  simp only[rcL,List.flatten_cons,List.flatten_nil,List.append_nil]at h
  obtain⟨h1,h⟩:=(ZdI (by rfl)).1 h
  obtain⟨h2,h3⟩:=(ZdI (by simp[x.i.2,y.i.2])).1 h
  simp only[List.cons.injEq,and_true]at h1 h3
  exact YaG (ZuU h1) (ZhQ.1 h2) (ZpB.1 h3)
 ·rintro rfl;rfl
theorem Ye9(x:Rc)(h:x.ok):FitsK Tryz.prog 3 (Tryz.prog.fieldsOf 148).toList 0 (rcS x) (rcL x):=by
 have c8:Tryz.prog.cellsOf 5=1:=by kernel_rfl
 have ce:Tryz.prog.cellsOf 28=1:=by kernel_rfl
 have cd:Tryz.prog.cellsOf 37=32:=by kernel_rfl
 have k8:=fun b=>ZoH Tryz.underlying5 2 b
 have ki:=fun n h1 h2=>Zna Tryz.underlying28 2 n h1 h2
 have kd:=fun d:Dg=>Ziu 1 d
 have hf:(Tryz.prog.fieldsOf 148).toList=(match Tryz.prog.underlying 148 with|some (.struct fs)=>fs|_=>#[]).toList:=by kernel_rfl
 rw[hf,Tryz.underlying148]
 simp only[rcS,rcL,FitsK,c8,ce,cd,ZbO,ki _ h.1 h.2,k8,kd]
 simp
theorem ZkL(x y:Rc)(hx:x.ok)(hy:y.ok)(b:Bool)(h:decide (x=y)=b)(w:World):
  (Op.equalIn 10000 148 (.agg (rcC x).toArray) (.agg (rcC y).toArray)).run Tryz.prog w=.ok b w:=by
 have hu:Tryz.prog.underlying 148=some (.struct (Tryz.prog.fieldsOf 148)):=by kernel_rfl
 exact Zpp hu 4 (by decide +kernel) (by decide) 3 (rcS x) (rcS y) (rcL x) (rcL y) (by rw[ZyS];exact ZhW x) (by rw[ZyS];exact ZhW y) (by decide +kernel) (Ye9 x hx) (Ye9 y hy) b (by rw[Yhh,←h,decide_eq_true_eq]) w
end Go.Proofs.YtnnclggeifnomaaGreatDoor
