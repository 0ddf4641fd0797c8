import Derived.Test.YtnnclggeifnomaaGreatDoorPlain
import Derived.Laws.Rows
import Derived.Laws.Tables
import Derived.Laws.NewBlocks
import Derived.Test.YtnnclggeifnomaaGreatDoorRows
import Derived.WalkLawsBesides
import Derived.WalkSpells
import Derived.Outline
import Derived.Laws.CopyOwn
import Derived.BigQuiet
import Derived.Deep.QuietTactic
import Derived.Deep.RegionWith
import Derived.IntWalk
import Derived.ChangeKeysEq
import Derived.Lib.SlBytesConst
import Derived.Shelf.Bytes.SlClone
set_option maxRecDepth 100000
set_option linter.all false
namespace Go.Proofs.YtnnclggeifnomaaGreatDoor
open Go.RowKit Go.Shelf
section
variable{P:Program}
theorem Zlz(w:World)(g:Nat)(cs:Array Value):w.grownBy (w.setRow g cs) (some g):=
 ⟨rfl,rfl,rfl,by simp[World.setRow],fun k _ hne=>setRow_other w g k cs (fun e=>hne (by rw[e]))⟩
theorem wp_store_row{o:Oper}{a:Act}{w:World}{K:Act→World→Prop}{Q:Exit→Act→World→Prop}(ty:TypeId)(x y:Operand)(ho:o.op=.store ty x y)
  (g:Nat) (cs:Array Value) (hx:a.eval x=.pointer (some ⟨g,0,none⟩)) (hy:a.eval y=.agg cs) (t:TypeId) (old:Array Value) (hg:w.heap[g]? =some (.cells old t (0,0)))
  (hi:(P.info? ty).map (·.size)=some cs.size) (hold:old.size=cs.size) (h1:cs.all (·.oneCell')=true)
  (h:∀w',w'.heap[g]? =some (.cells cs t (0,0))→w.grownBy w' (some g)→w'.heap.size=w.heap.size→K (a.put o.dst undef) w'):o.wp P a w K Q:=by
 have hrun:=run_storeVar_row (P:=P) w g t ty old cs hg hi hold h1
 unfold Oper.wp execOp
 simp only[ho,hx,hy,Instr.storeAt,Instr.sureAddr,Sem.run_bind,Sem.run_pure,Result.andThen_ok,hrun]
 exact h _ (setRow_heap w g old cs t (0,0) hg) (Zlz w g cs) (by simp[World.setRow])
theorem wpList_store_row{ops:Array Oper}{rest:List Oper}{o:Oper}{a:Act}{w:World}{Q:Exit→Act→World→Prop}(hw:Region.wanted o (yielded ops a.tmps)=true)(ty:TypeId)(x y:Operand)(ho:o.op=.store ty x y)
  (g:Nat) (cs:Array Value) (hx:a.eval x=.pointer (some ⟨g,0,none⟩)) (hy:a.eval y=.agg cs) (t:TypeId) (old:Array Value) (hg:w.heap[g]? =some (.cells old t (0,0)))
  (hi:(P.info? ty).map (·.size)=some cs.size) (hold:old.size=cs.size) (h1:cs.all (·.oneCell')=true)
  (h:∀w',w'.heap[g]? =some (.cells cs t (0,0))→w.grownBy w' (some g)→w'.heap.size=w.heap.size→wpList P ops Q rest (a.put o.dst undef) w'):wpList P ops Q (o::rest) a w:=
 wpList_step fun K hK=>by
  rw[if_pos hw]
  exact wp_store_row ty x y ho g cs hx hy t old hg hi hold h1 fun w' h2 h3 h4=>hK _ _ (h w' h2 h3 h4)
theorem stW{ops:Array Oper}{rest:List Oper}{o:Oper}{a:Act}{w:World}{Q:Exit→Act→World→Prop}{ty:TypeId}(x y:Nat)(g:Nat){cs:Array Value}(t:TypeId)(old:Array Value)(hg:w.heap[g]? =some (.cells old t (0,0)))
  (hi:(P.info? ty).map (·.size)=some cs.size) (hold:old.size=cs.size) (h1:cs.all (·.oneCell')=true)
  (h:∀w',w'.heap[g]? =some (.cells cs t (0,0))→w.grownBy w' (some g)→w'.heap.size=w.heap.size→wpList P ops Q rest (a.put o.dst undef) w') (hw:Region.wanted o (yielded ops a.tmps)=true:=by with_unfolding_all rfl) (ho:o.op=.store ty (.tmp x) (.tmp y):=by with_unfolding_all rfl)
  (hx:a.eval (.tmp x)=.pointer (some ⟨g,0,none⟩):=by with_unfolding_all rfl) (hy:a.eval (.tmp y)=.agg cs:=by with_unfolding_all rfl):wpList P ops Q (o::rest) a w:=wpList_store_row hw ty (.tmp x) (.tmp y) ho g cs hx hy t old hg hi hold h1 h
theorem Zac{ops:Array Oper}{rest:List Oper}{o:Oper}{a:Act}{w:World}{Q:Exit→Act→World→Prop}(hg:o.guard=none)(ty:TypeId)(ho:o.op=.alloc ty)
  (zs:Array Value) (hz:(P.info? ty).map (fun i=>(i.zero,i.size))=some (some (.agg zs),zs.size))
  (h:wpList P ops Q rest (a.put o.dst (.pointer (some ⟨w.heap.size,0,none⟩))) (w.alloc (.cells zs ty))):wpList P ops Q (o::rest) a w:=by
 refine wpList_plain hg fun K hK=>?_
 have hq:∃i,P.info? ty=some i∧i.zero=some (.agg zs):=by
  cases hq:P.info? ty with
  |none=>simp[hq]at hz
  |some i=>simp[hq]at hz;exact⟨i,rfl,hz.1⟩
 obtain⟨i,hi,hzz⟩:=hq
 unfold Oper.wp execOp
 simp only[ho]
 simp[Instr.alloc,zeroValue,typeInfo,hi,hzz,newVar,Value.cells]
 exact hK _ _ h
end
theorem Zbl{w:World}{g:Nat}{l:List UInt32}{t:TypeId}(h:w.heap[g]? =some (.cells (wvs l) t (0,0)))(i:Nat)(hi:i<l.length):w.cell? ⟨g,i,none⟩=some (.int .u32 (l[i].toNat:Int)):=by
 rw[Zaq h];simp[wvs,hi,uv]
theorem Zo1{w:World}{g:Nat}{l:List UInt32}{t:TypeId}(h:w.heap[g]? =some (.cells (wvs l) t (0,0)))(i:Nat)(x:UInt32):
  (w.setCell ⟨g,i,none⟩ (.int .u32 (x.toNat:Int))).heap[g]? =some (.cells (wvs (l.set i x)) t (0,0)):=by
 rw[ZaD h]
 simp[wvs,uv]
theorem Rd.grown{w w':World}{A:Option Addr}{l:List UInt8}{row:Option Nat}(h:Rd w A l)(hg:w.grownBy w' row)(hne:∀a,A=some a→some a.block≠row):Rd w' A l:=by
 intro hn
 obtain⟨b,o,rfl,hc⟩:=h hn
 refine⟨b,o,rfl,fun j x hx=>?_⟩
 have h1:=hc j x hx
 exact(World.cell?_of_block (hg.block b (Vx5 _ _ h1) (hne _ rfl))).trans h1
theorem ZfZ{w w':World}{o:Obj}(h:(w.alloc o).grownBy w' (some w.heap.size)):Below w.heap.size w w':=
 (Zad w o).grown h (Zad w o).size fun g e=>by
  injection e with e
  subst e
  exact Vx8 _
theorem Zay(l:List UInt8):((l.map bv).toArray).all (·.oneCell')=true:=by
 rw[Array.all_eq_true_iff_forall_mem]
 intro v hv
 exact Zbn l v (by simpa using hv)
theorem Zfs:(Tryz.prog.info? 5).map (fun i=>(i.zero,i.size,i.bytes))=some (some (.int .u8 0),1,1):=by kernel_rfl
theorem ZdD:Tryz.prog.underlying 5=some (.int .u8):=Tryz.underlying5
def z32:Array Value:=((List.replicate 32 (0:UInt8)).map bv).toArray
theorem Zam:(Tryz.prog.info? 37).map (fun i=>(i.zero,i.size))=some (some (.agg z32),z32.size):=by kernel_rfl
theorem z32_size:z32.size=32:=by decide +kernel
theorem Zai:(Tryz.prog.info? 37).map (·.size)=some 32:=by kernel_rfl
theorem u8s:U8s Tryz.prog 41 5:=⟨Tryz.underlying41,Zfs⟩
theorem ZzO(n:Nat):madeCells (Value.int .u8 0).cells n=((List.replicate n (0:UInt8)).map bv).toArray:=by
 apply Array.ext
 ·simp[size_madeCells]
 ·intro i h1 h2
  simp[madeCells,Value.cells,Nat.mod_one,bv]
theorem Zbr{w:World}{B g n:Nat}{E:TypeId}(h:w.ownsRow B E 1 (.slice (some ⟨g,0,none⟩) n n) n (madeCells (Value.int .u8 0).cells (n * 1)).toList):w.heap[g]? =some (.cells ((List.replicate n (0:UInt8)).map bv).toArray E (0,0)):=by
 rcases h.2 with ⟨hv,_⟩|⟨g',cap,cur,hv,hb,hg,hnc,hcm,hsz,ht⟩
 ·cases hv
 ·injection hv with hA _ hc
  injection hA with hA
  injection hA with hA
  subst hA hc
  rw[hg,←ZzO]
  congr 2
  apply Array.ext'
  rw[List.take_of_length_le (by simp[hsz])]at ht
  simpa using ht
theorem Zxo{α:Type}(L cs:List α)(h:cs.length=L.length):splice L 0 cs=cs:=by
 simp[splice,h]
theorem Zhl{w:World}{A:Option Addr}{l:List UInt8}(h:Rd w A l)(hn:0<l.length):∃b o,A=some ⟨b,o,none⟩∧∀j (hj:j<l.length),w.cell? ⟨b,o+j,none⟩=some (.int .u8 (l[j].toNat:Int)):=by
 obtain⟨b,o,rfl,hc⟩:=h hn
 exact⟨b,o,rfl,fun j hj=>hc j _ (Vx9 hj)⟩
theorem Zb6:Tryz.prog.underlying 9=some .string:=Tryz.underlying9
section
variable{P:Program}
theorem Zhp(E:TypeId)(he:P.underlying E=some (.int .u8))(l:List UInt8)(i:Nat)(hi:i<l.length)(w:World):(part E (l.map bv).toArray i).run P w=.ok (bv l[i]) w:=by
 simp[part,isAgg,run_underlying he,hi]
end
theorem ZyU:Tryz.prog.cellsOf 5=1:=by kernel_rfl
section
variable{P:Program}
theorem ZnH(d:Nat)(E:TypeId)(he:P.underlying E=some (.int .u8))(l m:List UInt8)(w:World):∀is:List Nat,(∀ i∈is,i<l.length∧i<m.length)→
  (Op.eqItems (d+1) E 1 (l.map bv).toArray (m.map bv).toArray is).run P w=.ok (is.all fun i=>l.getD i 0==m.getD i 0) w:=by
 intro is
 induction is with
 |nil=>intro _;simp[Op.eqItems]
 |cons i is ih=>
  intro h
  obtain⟨hi,hi2⟩:=h i (by simp)
  have h2:=ih fun j hj=>h j (by simp[hj])
  have e1:l.getD i 0=l[i]:=by simp[List.getD,hi]
  have e2:m.getD i 0=m[i]:=by simp[List.getD,hi2]
  have h3:(Op.equalIn (d+1) E (bv l[i]) (bv m[i])).run P w=.ok (l[i]==m[i]) w:=by
   unfold bv
   rw[run_equalIn_int w d E .u8 .u8 _ _ he]
   congr 1
   rw[Bool.eq_iff_iff,beq_iff_eq]
   simp[← UInt8.toNat_inj,Int.natCast_inj]
  simp only[Op.eqItems,Nat.mul_one,Sem.run_bind,Zhp E he l i hi w,Zhp E he m i hi2 w,Result.andThen_ok,h3,List.all_cons,e1,e2]
  cases hb:(l[i]==m[i])
  ·simp
  ·simp only[Bool.not_true,Bool.false_eq_true,if_false,Bool.true_and]
   exact h2
end
theorem Zpo(l m:List UInt8)(hl:l.length=32)(hm:m.length=32)(w:World):(Op.equalIn 10000 37 (.agg (l.map bv).toArray) (.agg (m.map bv).toArray)).run Tryz.prog w=.ok (decide (l=m)) w:=by
 obtain⟨i0,hi0,hz0,hz1,hz2⟩:=info_parts Zfs
 have h:=run_equalIn_array (P:=Tryz.prog) w 9999 (l.map bv).toArray (m.map bv).toArray Tryz.underlying37 hi0
 rw[h,ZyU]
 have h2:=ZnH 9998 5 ZdD l m w (List.range 32) (by intro i hi;rw[List.mem_range]at hi;omega)
 refine h2.trans ?_
 congr 1
 rw[Bool.eq_iff_iff,List.all_eq_true,decide_eq_true_eq]
 constructor
 ·intro h
  apply List.ext_getElem (by omega)
  intro i h1 h2
  have:=h i (List.mem_range.2 (by omega))
  simpa [List.getD,h1,h2] using this
 ·rintro rfl i _
  simp
def dfst(c:UInt8):Dg:=⟨c::List.replicate 31 0,rfl⟩
theorem Rds.lit(w:World)(t:TypeId)(vs:List (Option Addr×Nat×List UInt8))(cs:Array Value)(g:Nat)(hg:w.heap.size=g)(hcs:cs=(vs.map fun x=>Value.slice x.1 x.2.2.length x.2.1).toArray)
  (h:∀x∈vs,Rd w x.1 x.2.2∧x.2.2.length≤x.2.1∧x.2.1≤maxLen):Rds (w.alloc (.cells cs t)) (some ⟨g,0,none⟩) (vs.map (·.2.2)):=by
 subst hg hcs
 intro hn
 refine⟨w.heap.size,0,rfl,fun j l hl=>?_⟩
 rw[List.getElem?_map]at hl
 obtain⟨x,hx,rfl⟩:=Option.map_eq_some_iff.1 hl
 obtain⟨h1,h2,h3⟩:=h x (List.mem_of_getElem? hx)
 refine⟨x.1,x.2.1,?_,h1.alloc _,h2,h3⟩
 rw[cell_of_row _ w.heap.size (0+j) _ t (0,0) (Vx0 w _),Nat.zero_add,List.getElem?_toArray,List.getElem?_map,hx]
 rfl
theorem Rds.nil(w:World):Rds w none []:=fun hn=>absurd hn (by simp)
theorem Rd.litf(w:World)(t:TypeId)(l:List UInt8)(cs:Array Value)(g:Nat)(fr:Nat×Nat)(hg:w.heap.size=g)(h:cs=(l.map bv).toArray):Rd (w.alloc (.cells cs t fr)) (some ⟨g,0,none⟩) l:=by
 subst h hg
 intro hn
 refine⟨w.heap.size,0,rfl,fun j x hx=>?_⟩
 rw[cell_of_row _ w.heap.size (0+j) (l.map bv).toArray t fr (Vx0 w _)]
 simp[hx]
theorem ZcE(w:World)(C:Array Value)(n c:Nat):(convert 41 41 (.slice (some ⟨w.heap.size,0,none⟩) n c)).run Tryz.prog (w.alloc (.cells C 5))=.ok (.slice (some ⟨w.heap.size,0,none⟩) n c) (w.alloc (.cells C 5 (C.size,C.size+1))):=
 Lib.run_convert_bytes_const w 41 5 C n c Tryz.underlying41 Tryz.underlying5
theorem Yin(ds:Array Value)(t:TypeId)(w:World)(m:Nat):(w.alloc (.cells ds t)).cell? ⟨w.heap.size,m,none⟩=ds[m]? :=cell_of_row _ _ _ _ _ (0,0) (Vx0 w _)
theorem Yio(l:List UInt8)(m:Nat)(hm:m<l.length):(l.map bv).toArray[m]? =some (.int .u8 ((l.getD m 0).toNat:Int)):=by
 simp[bv,List.getD,hm]
theorem YbB(i:Nat):(i:Int).tdiv 8=((i / 8:Nat):Int):=by rw[Int.tdiv_eq_ediv_of_nonneg (by omega)];omega
theorem YhI(i:Nat):(i:Int).tmod 8=((i % 8:Nat):Int):=by rw[Int.tmod_eq_emod_of_nonneg (by omega)];omega
theorem ZcM{fn:Func}{p u:Tmp}(h:fn.results=#[.cell p 37,.tmp u])(tmps:Array Value)(w:World)(g:Nat)(cs:Array Value)(e1:tmps.getD p undef=.pointer (some ⟨g,0,none⟩))
  (hg:w.heap[g]? =some (.cells cs 37 (0,0))) (hs:cs.size=32):(results fn tmps).run Tryz.prog w=.ok (.tuple #[.agg cs,tmps.getD u undef]) w:=by
 have h2:=run_loadVar_mid (P:=Tryz.prog) w g 0 37 cs.toList _ (Zae hg) Tryz.underlying37 rfl (by rw[Array.length_toList,hs];exact Zai)
 rw[results_cell_tmp h,e1]
 simp only[asAddr,Sem.run_pure,Result.andThen_ok,h2]
theorem ZaL(a b:Dg)(eb:Bool)(h:decide (a=b)=eb)(w:World):(Op.equalIn 10000 37 (.agg (a.1.map bv).toArray) (.agg (b.1.map bv).toArray)).run Tryz.prog w=.ok eb w:=by
 rw[Zpo a.1 b.1 a.2 b.2 w]
 congr 1
 rw[← h]
 exact decide_eq_decide.2 ⟨fun e=>Subtype.ext e,fun e=>by rw[e]⟩
theorem ZaF(k:Dg):(Tryz.prog.info? 37).map (·.size)=some (k.1.map bv).length:=by rw[Vx6,k.2];exact Zai
def zPrC:Array Value:=(((List.replicate 32 (0:UInt8)).map bv)++[Value.slice none 0 0]).toArray
def zPr:Value:=.agg zPrC
theorem slotPr:Slot Tryz.prog Pr 44 43 zPr 56 where
 under:=Tryz.underlying44
 info:=by kernel_rfl
 zero:=by decide +kernel
 pos:=by decide
theorem Yd4:(match Tryz.prog.info? 43,Tryz.prog.underlying 43 with
  |some it,some (.struct fields)=>(fields.toList.mapM (fun f=>(Tryz.prog.info? f.type).map fun i=>(f.offset,i.size))).map fun pl=>(it.zero,pl)
  |_,_=>none)=some (some zPr,[(0,32),(32,1)]):=by kernel_rfl
theorem ZbK(k:Dg)(x:Value)(hx:x.cells=#[x]):Tryz.prog.built 43 [(0,.agg (k.1.map bv).toArray),(1,x)]=some (k.1.map bv++[x]).toArray:=by
 have h:=Yd4
 unfold Program.built
 cases hi:Tryz.prog.info? 43 with
 |none=>rw[hi]at h;cases h
 |some it=>
  cases hd:Tryz.prog.underlying 43 with
  |none=>rw[hi,hd]at h;cases h
  |some d=>
   cases d with
   |struct fields=>
    rw[hi,hd]at h
    simp only at h ⊢
    obtain⟨pl,hpl,h2⟩:=Option.map_eq_some_iff.1 h
    injection h2 with h3 h4
    rw[h3,hpl,h4]
    simp only
    have hk:(k.1.map bv).length=32:=by rw[Vx6];exact k.2
    have c1:(Value.agg (k.1.map bv).toArray).cells=(k.1.map bv).toArray:=rfl
    rw[ZaQ (off:=0) (by rw[c1,Vx7,hk];rfl) (by rw[c1,Vx7,hk];decide +kernel)]
    have e1:lay zPr.cells.toList 0 (Value.agg (k.1.map bv).toArray).cells.toList=k.1.map bv++[.slice none 0 0]:=by
     rw[c1]
     simp only[lay,List.take_zero,List.nil_append,hk]
     rfl
    rw[e1,ZaQ (off:=32) (by rw[hx];rfl) (by rw[hx];simp[hk]),Instr.fill]
    congr 2
    rw[hx]
    simp only[lay]
    rw[List.take_append_of_le_length (by rw[hk];decide),List.take_of_length_le (by rw[hk];decide),List.drop_of_length_le (by rw[Vx3,hk];exact Vx8 _)]
    simp
   |_=>rw[hi,hd]at h;cases h
theorem Zho{P:Program}(T E:TypeId)(n k:Nat)(kd:IntKind)(cs:Array Value)(v:Value)(w:World)(hu:P.underlying T=some (.array n E))(he:P.underlying E=some (.int kd))(hs:(P.info? E).map (·.size)=some 1)
  (hk:k<n) (hv:cs[k]? =some v):(Instr.index T (.agg cs) (.int .i64 (k:Int))).run P w=.ok v w:=by
 cases hq:P.info? E with
 |none=>simp[hq]at hs
 |some i=>
  have h1:i.size=1:=by simpa [hq] using hs
  simp[Instr.index,asIntOf,run_underlying hu,sizeOf,typeInfo,hq,h1,part,isAgg,run_underlying he,hv]
  intro h
  omega
def renK:Ren where
 f:=fun x=>match x with
  |4=>81
  |y=>y
 t:=fun x=>match x with
  |4=>4
  |5=>5
  |22=>41
  |y=>y
 g:=fun x=>x
theorem YiJ:SlLaysK.n4 Tryz.prog renK where
 mixed:=by kernel_rfl
 f4:=(by kernel_rfl:Tryz.prog.funcs[81]? =some (SlBodyK.n4 renK))
 t4:=Tryz.underlying4
 a4:=Tryz.isAgg4
 z4:=Tryz.sizeOf4
 v4:=Tryz.zeroValue4
 t22:=Tryz.underlying41
 a22:=Tryz.isAgg41
 z22:=Tryz.sizeOf41
 v22:=Tryz.zeroValue41
 t5:=Tryz.underlying5
 i5:=by kernel_rfl
theorem clone_nil(n c:Nat)(w:World):Calls Tryz.prog 81 #[.slice none n c] w fun e w'=>e=.returned (.slice none 0 0)∧w'=w:=Any.bytes_Clone_nil YiJ n c w
theorem YcI(a:Addr)(n c:Nat)(xs:List Int)(w:World)(hx:xs.length=n)(hbig:n≤140737488355328)(hc:∀i,i<n→w.cell? (a.add i)=some (.int .u8 (xs.getD i 0))):
  Calls Tryz.prog 81 #[.slice (some a) n c] w fun e w'=>∃v',e=.returned v'∧w'.ownsRow w.heap.size 5 1 v' n (xs.map (Value.int .u8))∧v'≠.slice none 0 0∧Below w.heap.size w w':=
 Any.bytes_Clone_at YiJ a n c xs w hx hbig hc
theorem Zbs(A:Option Addr)(n c:Nat)(l:List UInt8)(w:World)(hr:Rd w A l)(hn:n=l.length)(hl:l.length≤1000000):
  Calls Tryz.prog 81 #[.slice A n c] w fun e w'=>∃A' c',e=.returned (.slice A' l.length c')∧Own 5 w' w.heap.size A' c' l∧Below w.heap.size w w':=by
 subst hn
 rcases A with _|a
 ·have h0:l=[]:=by
   rcases Nat.eq_zero_or_pos l.length with h0|h0
   ·exact List.eq_nil_of_length_eq_zero h0
   ·obtain⟨b,o,hA,_⟩:=hr h0
    cases hA
  subst h0
  refine(clone_nil 0 c w).mono ?_
  rintro e w' ⟨rfl,rfl⟩
  exact⟨none,0,rfl,Own.nil _ _,Below.refl _ _⟩
 ·refine(YcI a l.length c (l.map fun x=>(x.toNat:Int)) w (by simp) (by omega) ?_).mono ?_
  ·intro i hi
   obtain⟨b,o,hA,hc⟩:=hr (by omega)
   injection hA with hA
   subst hA
   rw[Addr.add_lit,hc i _ (Vx9 hi)]
   simp[bv,List.getD,hi]
  ·rintro e w' ⟨v',rfl,ho,hne,hb⟩
   have hm:(l.map fun x=>(x.toNat:Int)).map (Value.int .u8)=l.map bv:=by rw[List.map_map];rfl
   rw[hm]at ho
   rcases ho.2 with ⟨rfl,h0⟩|⟨g,cap,cur,rfl,r⟩
   ·exact absurd rfl hne
   ·exact⟨some ⟨g,0,none⟩,cap,rfl,ho,hb⟩
end Go.Proofs.YtnnclggeifnomaaGreatDoor
