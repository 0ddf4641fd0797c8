import Derived.Test.YtimaoonpgilekaaDoorPlain
import Derived.Laws.Rows
import Derived.Laws.Tables
import Derived.Laws.NewBlocks
import Derived.Test.YtimaoonpgilekaaDoorRows
import Derived.WalkLawsBesides
import Derived.WalkSpells
import Derived.Outline
import Derived.Laws.CopyOwn
import Derived.BigQuiet
import Derived.Deep.QuietTactic
import Derived.Deep.RegionWith
import Derived.IntWalk
import Derived.ChangeKeysEq
import Derived.WideShapes
import Derived.Carry
import Derived.Lib.SlBytesConst
set_option maxRecDepth 100000
set_option linter.all false
namespace Go.Proofs.YtimaoonpgilekaaDoor
open Go.RowKit
section
variable{P:Program}
theorem Zlz(w:World)(g:Nat)(cs:Array Value):w.grownBy (w.setRow g cs) (some g):=
 ⟨rfl,rfl,rfl,by simp[World.setRow],fun k _ hne=>setRow_other w g k cs (fun e=>hne (by rw[e]))⟩
theorem wp_store_row{o:Oper}{a:Act}{w:World}{K:Act→World→Prop}{Q:Exit→Act→World→Prop}(ty:TypeId)(x y:Operand)(ho:o.op=.store ty x y)
  (g:Nat) (cs:Array Value) (hx:a.eval x=.pointer (some ⟨g,0,none⟩)) (hy:a.eval y=.agg cs) (t:TypeId) (old:Array Value) (hg:w.heap[g]? =some (.cells old t (0,0)))
  (hi:(P.info? ty).map (·.size)=some cs.size) (hold:old.size=cs.size) (h1:cs.all (·.oneCell')=true)
  (h:∀w',w'.heap[g]? =some (.cells cs t (0,0))→w.grownBy w' (some g)→w'.heap.size=w.heap.size→K (a.put o.dst undef) w'):o.wp P a w K Q:=by
 have hrun:=run_storeVar_row (P:=P) w g t ty old cs hg hi hold h1
 unfold Oper.wp execOp
 simp only[ho,hx,hy,Instr.storeAt,Instr.sureAddr,Sem.run_bind,Sem.run_pure,Result.andThen_ok,hrun]
 exact h _ (setRow_heap w g old cs t (0,0) hg) (Zlz w g cs) (by simp[World.setRow])
theorem wpList_store_row{ops:Array Oper}{rest:List Oper}{o:Oper}{a:Act}{w:World}{Q:Exit→Act→World→Prop}(hw:Region.wanted o (yielded ops a.tmps)=true)(ty:TypeId)(x y:Operand)(ho:o.op=.store ty x y)
  (g:Nat) (cs:Array Value) (hx:a.eval x=.pointer (some ⟨g,0,none⟩)) (hy:a.eval y=.agg cs) (t:TypeId) (old:Array Value) (hg:w.heap[g]? =some (.cells old t (0,0)))
  (hi:(P.info? ty).map (·.size)=some cs.size) (hold:old.size=cs.size) (h1:cs.all (·.oneCell')=true)
  (h:∀w',w'.heap[g]? =some (.cells cs t (0,0))→w.grownBy w' (some g)→w'.heap.size=w.heap.size→wpList P ops Q rest (a.put o.dst undef) w'):wpList P ops Q (o::rest) a w:=
 wpList_step fun K hK=>by
  rw[if_pos hw]
  exact wp_store_row ty x y ho g cs hx hy t old hg hi hold h1 fun w' h2 h3 h4=>hK _ _ (h w' h2 h3 h4)
theorem stW{ops:Array Oper}{rest:List Oper}{o:Oper}{a:Act}{w:World}{Q:Exit→Act→World→Prop}{ty:TypeId}(x y:Nat)(g:Nat){cs:Array Value}(t:TypeId)(old:Array Value)(hg:w.heap[g]? =some (.cells old t (0,0)))
  (hi:(P.info? ty).map (·.size)=some cs.size) (hold:old.size=cs.size) (h1:cs.all (·.oneCell')=true)
  (h:∀w',w'.heap[g]? =some (.cells cs t (0,0))→w.grownBy w' (some g)→w'.heap.size=w.heap.size→wpList P ops Q rest (a.put o.dst undef) w') (hw:Region.wanted o (yielded ops a.tmps)=true:=by with_unfolding_all rfl) (ho:o.op=.store ty (.tmp x) (.tmp y):=by with_unfolding_all rfl)
  (hx:a.eval (.tmp x)=.pointer (some ⟨g,0,none⟩):=by with_unfolding_all rfl) (hy:a.eval (.tmp y)=.agg cs:=by with_unfolding_all rfl):wpList P ops Q (o::rest) a w:=wpList_store_row hw ty (.tmp x) (.tmp y) ho g cs hx hy t old hg hi hold h1 h
theorem Zac{ops:Array Oper}{rest:List Oper}{o:Oper}{a:Act}{w:World}{Q:Exit→Act→World→Prop}(hg:o.guard=none)(ty:TypeId)(ho:o.op=.alloc ty)
  (zs:Array Value) (hz:(P.info? ty).map (fun i=>(i.zero,i.size))=some (some (.agg zs),zs.size))
  (h:wpList P ops Q rest (a.put o.dst (.pointer (some ⟨w.heap.size,0,none⟩))) (w.alloc (.cells zs ty))):wpList P ops Q (o::rest) a w:=by
 refine wpList_plain hg fun K hK=>?_
 have hq:∃i,P.info? ty=some i∧i.zero=some (.agg zs):=by
  cases hq:P.info? ty with
  |none=>simp[hq]at hz
  |some i=>simp[hq]at hz;exact⟨i,rfl,hz.1⟩
 obtain⟨i,hi,hzz⟩:=hq
 unfold Oper.wp execOp
 simp only[ho]
 simp[Instr.alloc,zeroValue,typeInfo,hi,hzz,newVar,Value.cells]
 exact hK _ _ h
end
theorem Zbl{w:World}{g:Nat}{l:List UInt32}{t:TypeId}(h:w.heap[g]? =some (.cells (wvs l) t (0,0)))(i:Nat)(hi:i<l.length):w.cell? ⟨g,i,none⟩=some (.int .u32 (l[i].toNat:Int)):=by
 rw[Zaq h];simp[wvs,hi,uv]
theorem Zo1{w:World}{g:Nat}{l:List UInt32}{t:TypeId}(h:w.heap[g]? =some (.cells (wvs l) t (0,0)))(i:Nat)(x:UInt32):
  (w.setCell ⟨g,i,none⟩ (.int .u32 (x.toNat:Int))).heap[g]? =some (.cells (wvs (l.set i x)) t (0,0)):=by
 rw[ZaD h]
 simp[wvs,uv]
theorem Zzx{a w:World}{g:Nat}(h:a.grownBy w (some g))(i:Nat)(u:Value):a.grownBy (w.setCell ⟨g,i,none⟩ u) (some g):=
 ⟨h.os,h.tape,h.output,by simpa [World.setCell] using h.size,fun k hk hne=>(Vy3 w _ u k (fun e=>hne (by rw[e]))).trans (h.block k hk hne)⟩
theorem Rd.grown{w w':World}{A:Option Addr}{l:List UInt8}{row:Option Nat}(h:Rd w A l)(hg:w.grownBy w' row)(hne:∀a,A=some a→some a.block≠row):Rd w' A l:=by
 intro hn
 obtain⟨b,o,rfl,hc⟩:=h hn
 refine⟨b,o,rfl,fun j x hx=>?_⟩
 have h1:=hc j x hx
 exact(World.cell?_of_block (hg.block b (Vx5 _ _ h1) (hne _ rfl))).trans h1
theorem Zay(l:List UInt8):((l.map bv).toArray).all (·.oneCell')=true:=by
 rw[Array.all_eq_true_iff_forall_mem]
 intro v hv
 exact Zbn l v (by simpa using hv)
theorem Zfs:(Tryd.prog.info? 5).map (fun i=>(i.zero,i.size,i.bytes))=some (some (.int .u8 0),1,1):=by kernel_rfl
theorem ZdD:Tryd.prog.underlying 5=some (.int .u8):=Tryd.underlying5
def z32:Array Value:=((List.replicate 32 (0:UInt8)).map bv).toArray
theorem Zam:(Tryd.prog.info? 23).map (fun i=>(i.zero,i.size))=some (some (.agg z32),z32.size):=by kernel_rfl
theorem z32_size:z32.size=32:=by decide +kernel
theorem Zai:(Tryd.prog.info? 23).map (·.size)=some 32:=by kernel_rfl
theorem u8s:U8s Tryd.prog 68 5:=⟨Tryd.underlying68,Zfs⟩
theorem ZzO(n:Nat):madeCells (Value.int .u8 0).cells n=((List.replicate n (0:UInt8)).map bv).toArray:=by
 apply Array.ext
 ·simp[size_madeCells]
 ·intro i h1 h2
  simp[madeCells,Value.cells,Nat.mod_one,bv]
theorem Zbr{w:World}{B g n:Nat}{E:TypeId}(h:w.ownsRow B E 1 (.slice (some ⟨g,0,none⟩) n n) n (madeCells (Value.int .u8 0).cells (n * 1)).toList):w.heap[g]? =some (.cells ((List.replicate n (0:UInt8)).map bv).toArray E (0,0)):=by
 rcases h.2 with ⟨hv,_⟩|⟨g',cap,cur,hv,hb,hg,hnc,hcm,hsz,ht⟩
 ·cases hv
 ·injection hv with hA _ hc
  injection hA with hA
  injection hA with hA
  subst hA hc
  rw[hg,←ZzO]
  congr 2
  apply Array.ext'
  rw[List.take_of_length_le (by simp[hsz])]at ht
  simpa using ht
theorem Zhl{w:World}{A:Option Addr}{l:List UInt8}(h:Rd w A l)(hn:0<l.length):∃b o,A=some ⟨b,o,none⟩∧∀j (hj:j<l.length),w.cell? ⟨b,o+j,none⟩=some (.int .u8 (l[j].toNat:Int)):=by
 obtain⟨b,o,rfl,hc⟩:=h hn
 exact⟨b,o,rfl,fun j hj=>hc j _ (Vx9 hj)⟩
section
variable{P:Program}
theorem Zhp(E:TypeId)(he:P.underlying E=some (.int .u8))(l:List UInt8)(i:Nat)(hi:i<l.length)(w:World):(part E (l.map bv).toArray i).run P w=.ok (bv l[i]) w:=by
 simp[part,isAgg,run_underlying he,hi]
end
theorem ZyU:Tryd.prog.cellsOf 5=1:=by kernel_rfl
section
variable{P:Program}
theorem ZnH(d:Nat)(E:TypeId)(he:P.underlying E=some (.int .u8))(l m:List UInt8)(w:World):∀is:List Nat,(∀ i∈is,i<l.length∧i<m.length)→
  (Op.eqItems (d+1) E 1 (l.map bv).toArray (m.map bv).toArray is).run P w=.ok (is.all fun i=>l.getD i 0==m.getD i 0) w:=by
 intro is
 induction is with
 |nil=>intro _;simp[Op.eqItems]
 |cons i is ih=>
  intro h
  obtain⟨hi,hi2⟩:=h i (by simp)
  have h2:=ih fun j hj=>h j (by simp[hj])
  have e1:l.getD i 0=l[i]:=by simp[List.getD,hi]
  have e2:m.getD i 0=m[i]:=by simp[List.getD,hi2]
  have h3:(Op.equalIn (d+1) E (bv l[i]) (bv m[i])).run P w=.ok (l[i]==m[i]) w:=by
   unfold bv
   rw[run_equalIn_int w d E .u8 .u8 _ _ he]
   congr 1
   rw[Bool.eq_iff_iff,beq_iff_eq]
   simp[← UInt8.toNat_inj,Int.natCast_inj]
  simp only[Op.eqItems,Nat.mul_one,Sem.run_bind,Zhp E he l i hi w,Zhp E he m i hi2 w,Result.andThen_ok,h3,List.all_cons,e1,e2]
  cases hb:(l[i]==m[i])
  ·simp
  ·simp only[Bool.not_true,Bool.false_eq_true,if_false,Bool.true_and]
   exact h2
end
theorem Zpo(l m:List UInt8)(hl:l.length=32)(hm:m.length=32)(w:World):(Op.equalIn 10000 23 (.agg (l.map bv).toArray) (.agg (m.map bv).toArray)).run Tryd.prog w=.ok (decide (l=m)) w:=by
 obtain⟨i0,hi0,hz0,hz1,hz2⟩:=info_parts Zfs
 have h:=run_equalIn_array (P:=Tryd.prog) w 9999 (l.map bv).toArray (m.map bv).toArray Tryd.underlying23 hi0
 rw[h,ZyU]
 have h2:=ZnH 9998 5 ZdD l m w (List.range 32) (by intro i hi;rw[List.mem_range]at hi;omega)
 refine h2.trans ?_
 congr 1
 rw[Bool.eq_iff_iff,List.all_eq_true,decide_eq_true_eq]
 constructor
 ·intro h
  apply List.ext_getElem (by omega)
  intro i h1 h2
  have:=h i (List.mem_range.2 (by omega))
  simpa [List.getD,h1,h2] using this
 ·rintro rfl i _
  simp
theorem ZeQ:Opens Tryd.prog 23 Dg:=Opens.dg Tryd.underlying23 Tryd.underlying5 (by kernel_rfl) (by kernel_rfl)
def dfst(c:UInt8):Dg:=⟨c::List.replicate 31 0,rfl⟩
theorem Rds.lit(w:World)(t:TypeId)(vs:List (Option Addr×Nat×List UInt8))(cs:Array Value)(g:Nat)(hg:w.heap.size=g)(hcs:cs=(vs.map fun x=>Value.slice x.1 x.2.2.length x.2.1).toArray)
  (h:∀x∈vs,Rd w x.1 x.2.2∧x.2.2.length≤x.2.1∧x.2.1≤maxLen):Rds (w.alloc (.cells cs t)) (some ⟨g,0,none⟩) (vs.map (·.2.2)):=by
 subst hg hcs
 intro hn
 refine⟨w.heap.size,0,rfl,fun j l hl=>?_⟩
 rw[List.getElem?_map]at hl
 obtain⟨x,hx,rfl⟩:=Option.map_eq_some_iff.1 hl
 obtain⟨h1,h2,h3⟩:=h x (List.mem_of_getElem? hx)
 refine⟨x.1,x.2.1,?_,h1.alloc _,h2,h3⟩
 rw[cell_of_row _ w.heap.size (0+j) _ t (0,0) (Vx0 w _),Nat.zero_add,List.getElem?_toArray,List.getElem?_map,hx]
 rfl
theorem Rds.nil(w:World):Rds w none []:=fun hn=>absurd hn (by simp)
theorem ZaL(a b:Dg)(eb:Bool)(h:decide (a=b)=eb)(w:World):(Op.equalIn 10000 23 (.agg (a.1.map bv).toArray) (.agg (b.1.map bv).toArray)).run Tryd.prog w=.ok eb w:=by
 rw[Zpo a.1 b.1 a.2 b.2 w]
 congr 1
 rw[← h]
 exact decide_eq_decide.2 ⟨fun e=>Subtype.ext e,fun e=>by rw[e]⟩
theorem ZeJ(w:World)(k:Dg)(t:TypeId):(w.alloc (.cells (k.1.map bv).toArray t)).rangeAt w.heap.size 0 (k.1.map bv):=Zae (Vx0 w _)
theorem ZaF(k:Dg):(Tryd.prog.info? 23).map (·.size)=some (k.1.map bv).length:=by rw[Vx6,k.2];exact Zai
theorem Zho{P:Program}(T E:TypeId)(n k:Nat)(kd:IntKind)(cs:Array Value)(v:Value)(w:World)(hu:P.underlying T=some (.array n E))(he:P.underlying E=some (.int kd))(hs:(P.info? E).map (·.size)=some 1)
  (hk:k<n) (hv:cs[k]? =some v):(Instr.index T (.agg cs) (.int .i64 (k:Int))).run P w=.ok v w:=by
 cases hq:P.info? E with
 |none=>simp[hq]at hs
 |some i=>
  have h1:i.size=1:=by simpa [hq] using hs
  simp[Instr.index,asIntOf,run_underlying hu,sizeOf,typeInfo,hq,h1,part,isAgg,run_underlying he,hv]
  intro h
  omega
end Go.Proofs.YtimaoonpgilekaaDoor
