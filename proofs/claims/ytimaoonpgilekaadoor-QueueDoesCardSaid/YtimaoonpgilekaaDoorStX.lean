import Derived.Test.YtimaoonpgilekaaDoorBits
import Derived.DeepKeys
import Derived.Test.YtimaoonpgilekaaDoorTrN
import Derived.Test.YtimaoonpgilekaaDoorPureX
set_option maxRecDepth 100000
set_option linter.all false
namespace Go.Proofs.YtimaoonpgilekaaDoor
open Go.RowKit
theorem Zzf{P:Program}{t:TypeId}(m:Nat)(hk:P.keyTypeAt m t=true)(hm:m≤10000){D D':Nat}{cs ds:List Value}{la lb:List Lit}(fa:(Value.agg cs.toArray).formed P t=true)(fb:(Value.agg ds.toArray).formed P t=true)
  (ha:P.keyLits D t cs=some la) (hb:P.keyLits D' t ds=some lb) (b:Bool) (h:b=true↔la=lb) (w:World):(Op.equalIn 10000 t (.agg cs.toArray) (.agg ds.toArray)).run P w=.ok b w:=by
 have hE:=run_equalIn_deep (P:=P) (10000-m) m t hk
 rw[show 10000-m+m=10000 by omega]at hE
 obtain⟨r,hr,hiff⟩:=hE w D D' (.agg cs.toArray) (.agg ds.toArray) la lb fa fb ha hb
 rw[hr]
 congr 1
 rw[Bool.eq_iff_iff,hiff,h]
def litU(n:Nat):Lit:=.int .u64 (n:Int)
def lit8(b:UInt8):Lit:=.int .u8 (b.toNat:Int)
theorem ZuU{a b:UInt8}(h:lit8 a=lit8 b):a=b:=by
 unfold lit8 at h
 injection h with _ h
 exact UInt8.toNat_inj.1 (by omega)
theorem ZzL{l m:List UInt8}(h:l.map lit8=m.map lit8):l=m:=List.map_inj_right (fun a b=>ZuU) |>.1 h
theorem Zhf{P:Program}{t:TypeId}(ht:P.underlying t=some (.int .u64))(d n:Nat)(hn:n<18446744073709551616):P.keyLits (d+1) t [.int .u64 (n:Int)]=some [litU n]:=by
 have hw:(Lit.int .u64 (n:Int)).wf=true:=by
  simp[Lit.wf,IntKind.min,IntKind.max,IntKind.signed,IntKind.bits]
  omega
 simp only[Program.keyLits,ht,hw,true_and,if_true]
 rfl
theorem ZoH{P:Program}{t:TypeId}(ht:P.underlying t=some (.int .u8))(d:Nat)(b:UInt8):P.keyLits (d+1) t [bv b]=some [lit8 b]:=by
 have hb:=b.toNat_lt
 have hw:(Lit.int .u8 (b.toNat:Int)).wf=true:=by
  simp[Lit.wf,IntKind.min,IntKind.max,IntKind.signed,IntKind.bits]
  omega
 unfold bv
 simp only[Program.keyLits,ht,hw,true_and,if_true]
 rfl
theorem ZiQ{P : Program}{t : TypeId}{fs : Array Field}(ht : P.underlying t = some (.struct fs))(d : Nat)(cs : List Value)(hl : cs.length = P.cellsOf t)(hn : fs.all (·.name != "_") = true):
  P.keyLits (d+1) t cs=(fs.toList.mapM fun f=>P.keyLits d f.type ((cs.drop f.offset).take (P.cellsOf f.type))).map List.flatten:=by
 simp only[Program.keyLits,ht,hl,hn,and_self,if_true]
theorem mapM_some{α β:Type}(f:α→Option β)(g:α→β):∀l:List α,(∀ x∈l,f x=some (g x))→l.mapM f=some (l.map g)
 |[],_=>rfl
 |x::l,h=>by
  rw[List.mapM_cons,h x (List.mem_cons_self ..),mapM_some f g l fun y hy=>h y (List.mem_cons_of_mem _ hy)]
  rfl
theorem Zrq{α β:Type}(f:α→β):∀xs:List α,(xs.map fun i=>[f i]).flatten=xs.map f
 |[]=>rfl
 |x::xs=>by rw[List.map_cons,List.flatten_cons,Zrq f xs];rfl
theorem ZwE(l:List UInt8)(n:Nat)(h:l.length=n):((List.range n).map fun i=>[lit8 (l.getD i 0)]).flatten=l.map lit8:=by
 rw[Zrq]
 apply List.ext_getElem
 ·simp[h]
 ·intro i h1 h2
  have h3:i<l.length:=by simpa using h2
  simp[List.getD,h3]
set_option maxRecDepth 100000 in
theorem Ziu(d:Nat)(k:Dg):Tryd.prog.keyLits (d+2) 23 (k.1.map bv)=some (k.1.map lit8):=by
 have hl:(k.1.map bv).length=Tryd.prog.cellsOf 23:=by rw[Vx6,k.2];kernel_rfl
 have h8:Tryd.prog.cellsOf 5=1:=by kernel_rfl
 simp only[Program.keyLits,Tryd.underlying23,hl,if_true,h8,Nat.mul_one]
 rw[mapM_some _ (fun i=>[lit8 (k.1.getD i 0)])]
 ·simp only[Option.map_some]
  congr 1
  exact ZwE k.1 32 k.2
 ·intro i hi
  rw[List.mem_range]at hi
  have hi2:i<k.1.length:=by rw[k.2];exact hi
  have e:((k.1.map bv).drop i).take 1=[bv (k.1.getD i 0)]:=by
   rw[List.drop_eq_getElem_cons (by rw[Vx6];exact hi2)]
   simp[hi2]
  rw[e]
  exact ZoH Tryd.underlying5 d _
theorem Zan{w0 w4:World}{o:Obj}{k:Nat}(hk:k=w0.heap.size)(hb:(w0.alloc o).grownBy w4 (some k)):Below w0.heap.size w0 w4:=
 (Zad w0 o).grown hb (Zad w0 o).size (fun g e=>by injection e with e;omega)
theorem ZaA(a:Addr)(w:World):(Instr.sliceAt 23 (.pointer (some a)) none none none).run Tryd.prog w=.ok (.slice (some a) 32 32) w:=by
 have hu:=Tryd.underlying23
 have h:=run_sliceAt_array_all (P:=Tryd.prog) w 23 a (by rw[hu];rfl)
 rw[h]
 rfl
theorem ZbB{w:World}{b o:Nat}{k:Dg}(h:w.rangeAt b o (k.1.map bv)):Rd w (some ⟨b,o,none⟩) k.1:=fun _=>⟨b,o,rfl,fun j x hx=>h j (bv x) (by rw[List.getElem?_map,hx];rfl)⟩
theorem Za4{w:World}{g:Nat}{l:List UInt8}{t:TypeId}(h:w.heap[g]? =some (.cells (l.map bv).toArray t (0,0))):Rd w (some ⟨g,0,none⟩) l:=fun _=>⟨g,0,rfl,fun j x hx=>by
 rw[cell_of_row w g (0+j) _ t (0,0) h,Nat.zero_add,List.getElem?_toArray,List.getElem?_map,hx];rfl⟩
section
variable{P:Program}
theorem Zaj{ops:Array Oper}{o:Oper}{a:Act}{w:World}{K:Act→World→Prop}{Q:Exit→Act→World→Prop}{X:Prop}(hw:o.guard=none)(ty:TypeId)(x y:Operand)(ho:o.op=.store ty x y)
  (g:Nat) (cs:Array Value) (hx:a.eval x=.pointer (some ⟨g,0,none⟩)) (hy:a.eval y=.agg cs) (t:TypeId) (old:Array Value) (hg:w.heap[g]? =some (.cells old t (0,0)))
  (hi:(P.info? ty).map (·.size)=some cs.size) (hold:old.size=cs.size) (h1:cs.all (·.oneCell')=true)
  (h:∀w',w'.heap[g]? =some (.cells cs t (0,0))→w.grownBy w' (some g)→K (a.put o.dst undef) w'):if Region.wanted o (yielded ops a.tmps)=true then Oper.wp P o a w K Q else X:=by
 rw[if_pos (by simp[Region.wanted,hw])]
 exact wp_store_row ty x y ho g cs hx hy t old hg hi hold h1 fun w' h2 h3 _=>h w' h2 h3
end
theorem Opens.struct6{P:Program}{t:TypeId}{α β γ δ ε ζ:Type}[Enc α][Enc β][Enc γ][Enc δ][Enc ε][Enc ζ]{f0 f1 f2 f3 f4 f5:Field}(ht:P.underlying t=some (.struct #[f0,f1,f2,f3,f4,f5]))
  (hc:P.cellsOf t=Enc.size α+Enc.size β+Enc.size γ+Enc.size δ+Enc.size ε+Enc.size ζ) (h0:f0.offset=0) (h1:f1.offset=Enc.size α) (h2:f2.offset=Enc.size α+Enc.size β) (h3:f3.offset=Enc.size α+Enc.size β+Enc.size γ) (h4:f4.offset=Enc.size α+Enc.size β+Enc.size γ+Enc.size δ) (h5:f5.offset=Enc.size α+Enc.size β+Enc.size γ+Enc.size δ+Enc.size ε)
  (o0:Opens P f0.type α) (o1:Opens P f1.type β) (o2:Opens P f2.type γ) (o3:Opens P f3.type δ) (o4:Opens P f4.type ε) (o5:Opens P f5.type ζ):Opens P t (α×β×γ×δ×ε×ζ):=
 ⟨by rw[hc];show _=Enc.size α+(Enc.size β+(Enc.size γ+(Enc.size δ+(Enc.size ε+Enc.size ζ))));omega,Vx4 o0.pos (Nat.le_add_right _ _),fun {H enc w base sp held fuel cs x} h=>by
  obtain⟨xs,n,_,hx,hl,hxl,hf⟩:=DataW.trod_struct ht h
  have e0:=hf 0 f0 rfl
  have e1:=hf 1 f1 rfl
  have e2:=hf 2 f2 rfl
  have e3:=hf 3 f3 rfl
  have e4:=hf 4 f4 rfl
  have e5:=hf 5 f5 rfl
  have hxl:xs.length=6:=by simpa using hxl
  rw[Vx9 (by omega)]at e0 e1 e2 e3 e4 e5
  obtain⟨a,ha⟩:=o0.opens e0
  obtain⟨b,hb⟩:=o1.opens e1
  obtain⟨c,hc'⟩:=o2.opens e2
  obtain⟨d,hd⟩:=o3.opens e3
  obtain⟨e,he⟩:=o4.opens e4
  obtain⟨f,hg⟩:=o5.opens e5
  rw[h0,o0.cells]at ha
  rw[h1,o1.cells]at hb
  rw[h2,o2.cells]at hc'
  rw[h3,o3.cells]at hd
  rw[h4,o4.cells]at he
  rw[h5,o5.cells,List.take_of_length_le (by rw[List.length_drop,hl,hc];omega)]at hg
  have cd:∀a s,(cs.drop a).take s++cs.drop (a+s)=cs.drop a:=fun a s=>by rw[← List.drop_drop,List.take_append_drop]
  have c0:=cd 0 (Enc.size α)
  have c1:=cd (Enc.size α) (Enc.size β)
  have c2:=cd (Enc.size α+Enc.size β) (Enc.size γ)
  have c3:=cd (Enc.size α+Enc.size β+Enc.size γ) (Enc.size δ)
  have c4:=cd (Enc.size α+Enc.size β+Enc.size γ+Enc.size δ) (Enc.size ε)
  rw[Nat.zero_add,List.drop_zero]at c0
  rw[List.drop_zero]at ha
  exact⟨(a,b,c,d,e,f),_,_,c0.symm,ha,_,_,c1.symm,hb,_,_,c2.symm,hc',_,_,c3.symm,hd,_,_,c4.symm,he,hg⟩⟩
section
variable{P:Program}{ops:Array Oper}{rest:List Oper}{o:Oper}{a:Act}{w:World}{Q:Exit→Act→World→Prop}
theorem ZbZ(hgd:o.guard=none)(ty:TypeId)(x y:Operand)(ho:o.op=.store ty x y)
  (g f:Nat) (cs:List Value) (cur:Array Value) (t:TypeId) (hx:a.eval x=.pointer (some ⟨g,f,none⟩)) (hy:a.eval y=.agg cs.toArray) (hg:w.heap[g]? =some (.cells cur t (0,0))) (hfit:f+cs.length≤cur.size)
  (hi:(P.info? ty).map (·.size)=some cs.length) (h1:cs.toArray.all (·.oneCell')=true)
  (h:∀w',w'.heap[g]? =some (.cells (setA cur f cs) t (0,0))→Chg (fun b=>b=g) w w'→wpList P ops Q rest (a.put o.dst undef) w'):wpList P ops Q (o::rest) a w:=
 wpList_store_mid hgd ty x y ho g f cs.toArray hx hy (ZcB hg f _ (by rw[Vx7];exact hfit)) (by rw[Vx7];exact hi) h1 (h _ (Zb8 cs f w cur hg) (ZdT g f cs w))
end
def partsFrom:Nat→List Value→List (Nat×Value)
 |_,[]=>[]
 |k,v::r=>(k,v)::partsFrom (k+1) r
def FitsAt(place:Nat→Option (Nat×Nat)):Nat→Nat→List (List Value)→List Value→Prop
 |_,_,[],[]=>True
 |k,off,z::zs,v::vs=>place k=some (off,z.length)∧v.cells.size=z.length∧FitsAt place (k+1) (off+z.length) zs vs
 |_,_,_,_=>False
theorem Zgp{place:Nat→Option (Nat×Nat)}:∀(zs:List (List Value)) (vs:List Value) (k:Nat) (pre:List Value),FitsAt place k pre.length zs vs→
  Instr.fill place (pre++zs.flatten).toArray (partsFrom k vs)=some (pre++(vs.map fun v=>v.cells.toList).flatten).toArray
 |[],[],k,pre,_=>by simp[partsFrom,Instr.fill]
 |z::zs,v::vs,k,pre,h=>by
  obtain⟨h1,h2,h3⟩:=h
  have hv:v.cells.toList.length=z.length:=by rw[Array.length_toList,h2]
  have ih:=Zgp zs vs (k+1) (pre++v.cells.toList) (by rw[Vx3,hv];exact h3)
  have hl:=Zbt pre z zs.flatten v.cells.toList hv
  show Instr.fill place (pre++(z::zs).flatten).toArray ((k,v)::partsFrom (k+1) vs)=_
  rw[ZaQ (off:=pre.length) (by rw[h1,h2]) (by rw[h2];simp)]
  simp only[List.flatten_cons]
  rw[hl,←List.append_assoc,ih]
  simp
 |[],_::_,_,_,h=>h.elim
 |_::_,[],_,_,h=>h.elim
theorem Zdx{W:World}{g:Nat}:∀(segs:List (List Value)) (o i:Nat) (hi:i<segs.length),W.rangeAt g o segs.flatten→W.rangeAt g (o+((segs.take i).flatten).length) segs[i]
 |s::segs,o,0,hi,h=>by
  intro j v hv
  have hv:s[j]? =some v:=hv
  have:=h j v (by rw[List.flatten_cons,List.getElem?_append_left (List.getElem?_eq_some_iff.1 hv).1];exact hv)
  simpa using this
 |s::segs,o,i+1,hi,h=>by
  have h2:W.rangeAt g (o+s.length) segs.flatten:=fun j v hv=>by
   have:=h (s.length+j) v (by rw[List.flatten_cons,List.getElem?_append_right (by omega),Nat.add_sub_cancel_left];exact hv)
   rw[Nat.add_assoc]
   exact this
  have ih:=Zdx segs (o+s.length) i (Nat.lt_of_succ_lt_succ hi) h2
  simp only[List.take_succ_cons,List.flatten_cons,Vx3,List.getElem_cons_succ]
  rw[← Nat.add_assoc]
  exact ih
 |[],_,_,hi,_=>absurd hi (by simp)
theorem ZiG(a b c vs:List Value)(h:vs.length=b.length):setA (a++(b++c)).toArray a.length vs=(a++(vs++c)).toArray:=by
 have h1:=ZiF vs a.length (a++(b++c)).toArray (by simp;omega)
 rw[List.toList_toArray,Zbt a b c vs h]at h1
 rw[← h1]
def FitsK(P:Program)(d:Nat):List Field→Nat→List (List Value)→List (List Lit)→Prop
 |[],_,[],[]=>True
 |f::fs,off,s::segs,l::lits=>f.offset=off∧P.cellsOf f.type=s.length∧P.keyLits d f.type s=some l∧FitsK P d fs (off+s.length) segs lits
 |_,_,_,_=>False
theorem Zm9{P:Program}{d:Nat}:∀(fs:List Field) (pre:List Value) (segs:List (List Value)) (lits:List (List Lit)),FitsK P d fs pre.length segs lits→
  (fs.mapM fun f=>P.keyLits d f.type (((pre++segs.flatten).drop f.offset).take (P.cellsOf f.type)))=some lits
 |[],pre,[],[],_=>rfl
 |f::fs,pre,s::segs,l::lits,h=>by
  obtain⟨h1,h2,h3,h4⟩:=h
  have ih:=Zm9 fs (pre++s) segs lits (by rw[Vx3];exact h4)
  rw[List.append_assoc]at ih
  rw[List.mapM_cons,List.flatten_cons,ih,h1,h2,List.drop_left,List.take_left,h3]
  rfl
 |[],_,_::_,_,h=>h.elim
 |[],_,[],_::_,h=>h.elim
 |_::_,_,[],_,h=>h.elim
 |_::_,_,_::_,[],h=>h.elim
theorem ZlB{P : Program}{t : TypeId}{fs : Array Field}(ht : P.underlying t = some (.struct fs))(d : Nat)(segs : List (List Value))(lits : List (List Lit))(hl : segs.flatten.length = P.cellsOf t)(hn : fs.all (·.name != "_") = true)(h : FitsK P d fs.toList 0 segs lits):
  P.keyLits (d+1) t segs.flatten=some lits.flatten:=by
 rw[ZiQ ht d _ hl hn]
 have:=Zm9 fs.toList [] segs lits h
 rw[List.nil_append]at this
 rw[this]
 rfl
theorem Zpp{P : Program}{t : TypeId}{fs : Array Field}(ht : P.underlying t = some (.struct fs))(m : Nat)(hk : P.keyTypeAt m t = true)(hm : m ≤ 10000)(d : Nat)(s1 s2 : List (List Value))(l1 l2 : List (List Lit))(h1 : s1.flatten.length = P.cellsOf t)(h2 : s2.flatten.length = P.cellsOf t)(hn : fs.all (·.name != "_") = true)
  (f1:FitsK P d fs.toList 0 s1 l1) (f2:FitsK P d fs.toList 0 s2 l2) (b:Bool) (h:b=true↔l1.flatten=l2.flatten) (w:World):
  (Op.equalIn 10000 t (.agg s1.flatten.toArray) (.agg s2.flatten.toArray)).run P w=.ok b w:=by
 have hf:∀s:List (List Value),s.flatten.length=P.cellsOf t→(Value.agg s.flatten.toArray).formed P t=true:=fun s hs=>by
  simp only[Value.formed,ht]
  simp[hs]
 exact Zzf m hk hm (hf s1 h1) (hf s2 h2) (ZlB ht d s1 l1 h1 hn f1) (ZlB ht d s2 l2 h2 hn f2) b h w
instance:Enc Ac:=Enc.by_ fun a=>(a.n,a.b)
def txS(x:Tx):List (List Value):=[x.p.1.map bv,x.t.1.map bv,[.int .u64 (x.n:Int)],[.int .u64 (x.a:Int)],[.int .u64 (x.f:Int)],x.s.1.map bv]
def txC(x:Tx):List Value:=(txS x).flatten
theorem ZbO(d:Dg):(d.1.map bv).length=32:=by rw[Vx6];exact d.2
theorem ZgR(x:Tx):(txC x).length=99:=by simp[txC,txS,x.p.2,x.t.2,x.s.2]
instance:Enc Tx:=Enc.by_ fun x=>(x.p,x.t,x.n,x.a,x.f,x.s)
theorem ZlF{F:Nat→Prop}{w:World}{x:Tx}{vs:List Value}(h:Enc.rep F w x vs):vs=txC x∧x.ok:=by
 obtain⟨u1,t1,rfl,h1,u2,t2,rfl,h2,u3,t3,rfl,⟨h3,b3⟩,u4,t4,rfl,⟨h4,b4⟩,u5,t5,rfl,⟨h5,b5⟩,h6⟩:=h
 have h1:u1=x.p.1.map bv:=h1
 have h2:u2=x.t.1.map bv:=h2
 have h6:t5=x.s.1.map bv:=h6
 subst h1 h2 h3 h4 h5 h6
 exact⟨by simp[txC,txS],b3,b4,b5⟩
theorem Zh1:Opens Tryd.prog 31 Nat:=Opens.u64 Tryd.underlying31 (by kernel_rfl)
theorem opensTx:Opens Tryd.prog 33 Tx:=
 Opens.by_ (fun x:Tx=>(x.p,x.t,x.n,x.a,x.f,x.s)) (fun b=>⟨b.1,b.2.1,b.2.2.1,b.2.2.2.1,b.2.2.2.2.1,b.2.2.2.2.2⟩) (fun b=>rfl)
  (Opens.struct6 Tryd.underlying33 (by kernel_rfl) rfl rfl rfl rfl rfl rfl ZeQ ZeQ Zh1 Zh1 Zh1 ZeQ)
theorem Zby(x:Tx):(Tryd.prog.info? 33).map (·.size)=some (txC x).length:=by rw[ZgR];kernel_rfl
theorem Zb2(x:Tx):(Tryd.prog.info? 33).map (·.size)=some (txC x).toArray.size:=Zby x
theorem ZyT:Tryd.prog.cellsOf 33=99:=by kernel_rfl
def zTxC:Array Value:=(txC zX).toArray
theorem Zbv:(Tryd.prog.info? 33).map (fun i=>(i.zero,i.size))=some (some (.agg zTxC),zTxC.size):=by kernel_rfl
theorem ZcS(x:Tx):zTxC.size=(txC x).toArray.size:=by
 show (txC zX).toArray.size=_
 rw[Vx7,Vx7,ZgR,ZgR]
theorem Zdw(x:Tx):(txC x).toArray.all (·.oneCell')=true:=all_oneCell_toArray fun v hv=>by
 simp only[txC,txS,List.mem_flatten,List.mem_cons,List.not_mem_nil,or_false]at hv
 obtain⟨l,hl,hv⟩:=hv
 rcases hl with rfl|rfl|rfl|rfl|rfl|rfl
 ·exact Zbn _ v hv
 ·exact Zbn _ v hv
 ·simp at hv;subst hv;rfl
 ·simp at hv;subst hv;rfl
 ·simp at hv;subst hv;rfl
 ·exact Zbn _ v hv
structure BoxX (W:World) (g:Nat) (x:Tx):Prop where
 all:W.rangeAt g 0 (txC x)
 p:W.rangeAt g 0 (x.p.1.map bv)
 t:W.rangeAt g 32 (x.t.1.map bv)
 n:W.cell? ⟨g,64,none⟩=some (.int .u64 (x.n:Int))
 a:W.cell? ⟨g,65,none⟩=some (.int .u64 (x.a:Int))
 f:W.cell? ⟨g,66,none⟩=some (.int .u64 (x.f:Int))
 s:W.rangeAt g 67 (x.s.1.map bv)
theorem BoxX.of{W:World}{g:Nat}{x:Tx}(h:W.rangeAt g 0 (txC x)):BoxX W g x:=by
 have hr:=fun i (hi:i<(txS x).length)=>Zdx (txS x) 0 i hi h
 have h0:=hr 0 (by simp[txS])
 have h1:=hr 1 (by simp[txS])
 have h2:=hr 2 (by simp[txS])
 have h3:=hr 3 (by simp[txS])
 have h4:=hr 4 (by simp[txS])
 have h5:=hr 5 (by simp[txS])
 simp[txS,x.p.2,x.t.2]at h0 h1 h2 h3 h4 h5
 exact⟨h,h0,h1,h2 0 _ rfl,h3 0 _ rfl,h4 0 _ rfl,h5⟩
theorem BoxX.bel{W W':World}{g:Nat}{x:Tx}(h:BoxX W g x)(hb:Below W.heap.size W W'):BoxX W' g x:=BoxX.of (Zab hb h.all)
theorem BoxX.new(W:World)(x:Tx)(t:TypeId):BoxX (W.alloc (.cells (txC x).toArray t)) W.heap.size x:=BoxX.of (Zae (Vx0 W _))
theorem Zh7(x:Tx)(d:Dg):setA (txC x).toArray 67 (d.1.map bv)=(txC { x with s:=d }).toArray:=by
 have h:=ZiG (x.p.1.map bv++(x.t.1.map bv++[.int .u64 (x.n:Int),.int .u64 (x.a:Int),.int .u64 (x.f:Int)])) (x.s.1.map bv) [] (d.1.map bv) (by rw[ZbO,ZbO])
 rw[show (x.p.1.map bv++(x.t.1.map bv++[Value.int .u64 (x.n:Int),.int .u64 (x.a:Int),.int .u64 (x.f:Int)])).length=67 by simp[x.p.2,x.t.2]]at h
 have e1:txC x=x.p.1.map bv++(x.t.1.map bv++[.int .u64 (x.n:Int),.int .u64 (x.a:Int),.int .u64 (x.f:Int)])++(x.s.1.map bv++[]):=by simp[txC,txS]
 have e2:txC { x with s:=d }=x.p.1.map bv++(x.t.1.map bv++[.int .u64 (x.n:Int),.int .u64 (x.a:Int),.int .u64 (x.f:Int)])++(d.1.map bv++[]):=by simp[txC,txS]
 rw[e1,e2]
 exact h
def txL(x:Tx):List (List Lit):=[x.p.1.map lit8,x.t.1.map lit8,[litU x.n],[litU x.a],[litU x.f],x.s.1.map lit8]
theorem ZdI{α:Type}{a b c d:List α}(h:a.length=c.length):a++b=c++d↔a=c∧b=d:=⟨fun e=>List.append_inj e h,fun ⟨e1,e2⟩=>by rw[e1,e2]⟩
theorem ZjV{a b:Nat}:litU a=litU b↔a=b:=⟨fun h=>by unfold litU at h;injection h with _ h;omega,fun h=>by rw[h]⟩
theorem ZhQ{a b:Dg}:a.1.map lit8=b.1.map lit8↔a=b:=⟨fun h=>Subtype.ext (ZzL h),fun h=>by rw[h]⟩
theorem Yjo{x y:Tx}(h1:x.p=y.p)(h2:x.t=y.t)(h3:x.n=y.n)(h4:x.a=y.a)(h5:x.f=y.f)(h6:x.s=y.s):x=y:=by cases x;cases y;simp_all
theorem YhN{x y:Tx}:(txL x).flatten=(txL y).flatten↔x=y:=by
 constructor
 ·intro h
  simp only[txL,List.flatten_cons,List.flatten_nil,List.append_nil]at h
  obtain⟨h1,h⟩:=(ZdI (by simp[x.p.2,y.p.2])).1 h
  obtain⟨h2,h⟩:=(ZdI (by simp[x.t.2,y.t.2])).1 h
  obtain⟨h3,h⟩:=(ZdI (by rfl)).1 h
  obtain⟨h4,h⟩:=(ZdI (by rfl)).1 h
  obtain⟨h5,h6⟩:=(ZdI (by rfl)).1 h
  simp only[List.cons.injEq,and_true]at h3 h4 h5
  exact Yjo (ZhQ.1 h1) (ZhQ.1 h2) (ZjV.1 h3) (ZjV.1 h4) (ZjV.1 h5) (ZhQ.1 h6)
 ·rintro rfl;rfl
theorem Yfa(x:Tx)(h:x.ok):FitsK Tryd.prog 3 (Tryd.prog.fieldsOf 33).toList 0 (txS x) (txL x):=by
 have c8:Tryd.prog.cellsOf 31=1:=by kernel_rfl
 have cd:Tryd.prog.cellsOf 23=32:=by kernel_rfl
 have ku:=fun n hn=>Zhf Tryd.underlying31 2 n hn
 have kd:=fun d:Dg=>Ziu 1 d
 have hf:(Tryd.prog.fieldsOf 33).toList=(match Tryd.prog.underlying 33 with|some (.struct fs)=>fs|_=>#[]).toList:=by kernel_rfl
 rw[hf,Tryd.underlying33]
 simp only[txS,txL,FitsK,c8,cd,ZbO,ku _ h.1,ku _ h.2.1,ku _ h.2.2,kd]
 simp
theorem Zfm(x y:Tx)(hx:x.ok)(hy:y.ok)(b:Bool)(h:decide (x=y)=b)(w:World):
  (Op.equalIn 10000 33 (.agg (txC x).toArray) (.agg (txC y).toArray)).run Tryd.prog w=.ok b w:=by
 have hu:Tryd.prog.underlying 33=some (.struct (Tryd.prog.fieldsOf 33)):=by kernel_rfl
 exact Zpp hu 4 (by decide +kernel) (by decide) 3 (txS x) (txS y) (txL x) (txL y) (by rw[ZyT];exact ZgR x) (by rw[ZyT];exact ZgR y) (by decide +kernel) (Yfa x hx) (Yfa y hy) b (by rw[YhN,←h,decide_eq_true_eq]) w
def hdS(x:Hd):List (List Value):=[[.int .i64 x.h],x.p.1.map bv,x.s.1.map bv,x.r.1.map bv,[.int .i64 x.m]]
def hdC(x:Hd):List Value:=(hdS x).flatten
theorem ZlC(x:Hd):(hdC x).length=98:=by simp[hdC,hdS,x.p.2,x.s.2,x.r.2]
instance:Enc Hd:=Enc.by_ fun x=>(x.h,x.p,x.s,x.r,x.m)
def Hd.ok(x:Hd):Prop:=(-9223372036854775808≤x.h∧x.h≤9223372036854775807)∧(-9223372036854775808≤x.m∧x.m≤9223372036854775807)
structure BoxH (W:World) (g:Nat) (x:Hd):Prop where
 all:W.rangeAt g 0 (hdC x)
 h:W.cell? ⟨g,0,none⟩=some (.int .i64 x.h)
 p:W.rangeAt g 1 (x.p.1.map bv)
 s:W.rangeAt g 33 (x.s.1.map bv)
 r:W.rangeAt g 65 (x.r.1.map bv)
 m:W.cell? ⟨g,97,none⟩=some (.int .i64 x.m)
theorem BoxH.of{W:World}{g:Nat}{x:Hd}(h:W.rangeAt g 0 (hdC x)):BoxH W g x:=by
 have hr:=fun i (hi:i<(hdS x).length)=>Zdx (hdS x) 0 i hi h
 have h0:=hr 0 (by simp[hdS])
 have h1:=hr 1 (by simp[hdS])
 have h2:=hr 2 (by simp[hdS])
 have h3:=hr 3 (by simp[hdS])
 have h4:=hr 4 (by simp[hdS])
 simp[hdS,x.p.2,x.s.2,x.r.2]at h0 h1 h2 h3 h4
 exact⟨h,h0 0 _ rfl,h1,h2,h3,h4 0 _ rfl⟩
theorem BoxH.bel{W W':World}{g:Nat}{x:Hd}(h:BoxH W g x)(hb:Below W.heap.size W W'):BoxH W' g x:=BoxH.of (Zab hb h.all)
theorem BoxH.new(W:World)(x:Hd)(t:TypeId):BoxH (W.alloc (.cells (hdC x).toArray t)) W.heap.size x:=BoxH.of (Zae (Vx0 W _))
def dpS(x:Dp):List (List Value):=[[.int .u64 (x.n:Int)],x.t.1.map bv,[.int .u64 (x.a:Int)]]
def dpC(x:Dp):List Value:=(dpS x).flatten
instance:Enc Dp:=Enc.by_ fun x=>(x.n,x.t,x.a)
structure BoxD (W:World) (g:Nat) (x:Dp):Prop where
 all:W.rangeAt g 0 (dpC x)
 n:W.cell? ⟨g,0,none⟩=some (.int .u64 (x.n:Int))
 t:W.rangeAt g 1 (x.t.1.map bv)
 a:W.cell? ⟨g,33,none⟩=some (.int .u64 (x.a:Int))
theorem BoxD.of{W:World}{g:Nat}{x:Dp}(h:W.rangeAt g 0 (dpC x)):BoxD W g x:=by
 have hr:=fun i (hi:i<(dpS x).length)=>Zdx (dpS x) 0 i hi h
 have h0:=hr 0 (by simp[dpS])
 have h1:=hr 1 (by simp[dpS])
 have h2:=hr 2 (by simp[dpS])
 simp[dpS,x.t.2]at h0 h1 h2
 exact⟨h,h0 0 _ rfl,h1,h2 0 _ rfl⟩
theorem BoxD.bel{W W':World}{g:Nat}{x:Dp}(h:BoxD W g x)(hb:Below W.heap.size W W'):BoxD W' g x:=BoxD.of (Zab hb h.all)
theorem BoxD.new(W:World)(x:Dp)(t:TypeId):BoxD (W.alloc (.cells (dpC x).toArray t)) W.heap.size x:=BoxD.of (Zae (Vx0 W _))
def rcS(x:Rc):List (List Value):=[[bv x.k],x.i.1.map bv,[.int .i64 x.c]]
def rcC(x:Rc):List Value:=(rcS x).flatten
instance:Enc Rc:=Enc.by_ fun x=>(x.k,x.i,x.c)
def Rc.ok(x:Rc):Prop:= -9223372036854775808≤x.c∧x.c≤9223372036854775807
structure BoxR (W:World) (g:Nat) (x:Rc):Prop where
 all:W.rangeAt g 0 (rcC x)
 k:W.cell? ⟨g,0,none⟩=some (bv x.k)
 i:W.rangeAt g 1 (x.i.1.map bv)
 c:W.cell? ⟨g,33,none⟩=some (.int .i64 x.c)
theorem BoxR.of{W:World}{g:Nat}{x:Rc}(h:W.rangeAt g 0 (rcC x)):BoxR W g x:=by
 have hr:=fun i (hi:i<(rcS x).length)=>Zdx (rcS x) 0 i hi h
 have h0:=hr 0 (by simp[rcS])
 have h1:=hr 1 (by simp[rcS])
 have h2:=hr 2 (by simp[rcS])
 simp[rcS,x.i.2]at h0 h1 h2
 exact⟨h,h0 0 _ rfl,h1,h2 0 _ rfl⟩
theorem BoxR.bel{W W':World}{g:Nat}{x:Rc}(h:BoxR W g x)(hb:Below W.heap.size W W'):BoxR W' g x:=BoxR.of (Zab hb h.all)
theorem BoxR.new(W:World)(x:Rc)(t:TypeId):BoxR (W.alloc (.cells (rcC x).toArray t)) W.heap.size x:=BoxR.of (Zae (Vx0 W _))
end Go.Proofs.YtimaoonpgilekaaDoor
