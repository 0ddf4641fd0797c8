import Derived.Test.YtimaoonpgilekaaDoorShaR
set_option maxRecDepth 100000
set_option linter.all false
set_option maxHeartbeats 1600000
namespace Go.Proofs.YtimaoonpgilekaaDoor
open Go.RowKit
theorem Ya0(x:UInt32)(n:Nat):bits .or .u32 ((x.toNat:Int) * 2 ^ (32-n) % 4294967296) ((x.toNat:Int) / 2 ^ n)=((rotr x n).toNat:Int):=by
 rw[← Zsa]
 have hx:=x.toNat_lt
 have e1:(x.toNat:Int) / 2 ^ n=((x.toNat / 2 ^ n:Nat):Int):=by simp
 have e2:(x.toNat:Int) * 2 ^ (32-n) % 4294967296=((x.toNat * 2 ^ (32-n) % 4294967296:Nat):Int):=by simp
 have h1:x.toNat / 2 ^ n<4294967296:=Nat.lt_of_le_of_lt (Nat.div_le_self _ _) hx
 have h2:x.toNat * 2 ^ (32-n) % 4294967296<4294967296:=Nat.mod_lt _ (by decide)
 rw[e1,e2,u32_or_nat _ _ h1 h2,u32_or_nat _ _ h2 h1,Nat.or_comm]
theorem Yj2:∀n:Nat,n<32→1≤n→bits .and .u64 (IntKind.u64.wrap (-(n:Int))) 31=((32-n:Nat):Int):=by decide +kernel
theorem Yho(x:UInt32)(n:Nat)(w:World)(h1:1≤n)(h2:n≤31):
  Calls Tryd.prog 79 #[.int .u32 (x.toNat:Int),.int .i64 (-(n:Int))] w fun e w'=>e=.returned (.int .u32 ((rotr x n).toNat:Int))∧w=w':=by
 have hr:=Ya0 x n
 have hx':x.toNat<4294967296:=x.toNat_lt
 have hn:=Yj2 n (by omega) h1
 obtain⟨m,hm⟩:∃m,m=32-n:=⟨_,rfl⟩
 rw[← hm]at hn hr
 have hs:32-m=n:=by omega
 have hm2:m≤31:=by omega
 clear hm
 go_enter Tryd.func79,Tryd.ntmps79
 go_wp2
 go_ret
 rw[← hr]
 exact⟨rfl,rfl⟩
theorem Zxy(x:UInt32)(n:Nat)(ni:Int)(w:World)(hn:ni=n)(h1:1≤n)(h2:n≤31):
  Calls Tryd.prog 74 #[.int .u32 (x.toNat:Int),.int .i64 ni] w fun e w'=>e=.returned (.int .u32 ((rotr x n).toNat:Int))∧w=w':=by
 subst hn
 have hf:IntKind.i64.wrap (-(n:Int))= -(n:Int):=IntWalk.i64_in _ (by omega)
 go_enter Tryd.func74,Tryd.ntmps74
 go_wp2_with fail
 refine(Yho x n _ h1 h2).mono ?_
 rintro e w' ⟨rfl,rfl⟩
 go_wp2
 go_ret
 exact⟨rfl,rfl⟩
def sumL(s:List UInt32)(b:List UInt8)(h n:Nat):List Value:=s.map uv++(b.map bv++[.int .i64 h,.int .u64 n])
structure SumIs (w:World) (g:Nat) (s:List UInt32) (b:List UInt8) (h n:Nat):Prop where
 blk:w.heap[g]? =some (.cells (sumL s b h n).toArray 95 (0,0))
 len:b.length=64
 len8:s.length=8
section
variable{w:World}{g:Nat}{s:List UInt32}{b:List UInt8}{h n:Nat}
theorem SumIs.st(H:SumIs w g s b h n)(i:Nat)(hi:i<8):w.cell? ⟨g,i,none⟩=some (.int .u32 ((s.getD i 0).toNat:Int)):=by
 rw[Zaq H.blk]
 have hl:=H.len8
 simp only[sumL,List.getElem?_toArray]
 rw[List.getElem?_append_left (by rw[Vx6];omega),List.getElem?_map,Vx9 (by omega),ZdJ _ _ (by omega)]
 rfl
theorem SumIs.bl(H:SumIs w g s b h n)(j:Nat)(hj:j<64):w.cell? ⟨g,8+j,none⟩=some (bv (b.getD j 0)):=by
 rw[Zaq H.blk]
 have hl:=H.len8
 have hb:=H.len
 simp only[sumL,List.getElem?_toArray]
 rw[List.getElem?_append_right (by rw[Vx6];omega),Vx6,hl,Nat.add_sub_cancel_left,List.getElem?_append_left (by rw[Vx6];omega),List.getElem?_map,Vx9 (by omega),List.getD_eq_getElem?_getD,Vx9 (by omega)]
 rfl
theorem SumIs.hd(H:SumIs w g s b h n):w.cell? ⟨g,72,none⟩=some (.int .i64 h):=by
 rw[Zaq H.blk]
 have hl:=H.len8
 have hb:=H.len
 simp only[sumL,List.getElem?_toArray]
 rw[List.getElem?_append_right (by rw[Vx6];omega),Vx6,hl,List.getElem?_append_right (by rw[Vx6];omega),Vx6,hb]
 rfl
theorem SumIs.ct(H:SumIs w g s b h n):w.cell? ⟨g,73,none⟩=some (.int .u64 n):=by
 rw[Zaq H.blk]
 have hl:=H.len8
 have hb:=H.len
 simp only[sumL,List.getElem?_toArray]
 rw[List.getElem?_append_right (by rw[Vx6];omega),Vx6,hl,List.getElem?_append_right (by rw[Vx6];omega),Vx6,hb]
 rfl
theorem SumIs.set_bl(H:SumIs w g s b h n)(j:Nat)(hj:j<64)(x:UInt8):SumIs (w.setCell ⟨g,8+j,none⟩ (bv x)) g s (b.set j x) h n:=by
 have hl:=H.len8
 have hb:=H.len
 refine⟨?_,by rw[List.length_set];exact hb,hl⟩
 rw[ZaD H.blk]
 simp only[sumL,List.setIfInBounds_toArray]
 rw[List.set_append_right _ _ (by rw[Vx6];omega),Vx6,hl,Nat.add_sub_cancel_left,List.set_append_left _ _ (by rw[Vx6];omega),List.map_set]
theorem SumIs.set_st(H:SumIs w g s b h n)(i:Nat)(hi:i<8)(x:UInt32):SumIs (w.setCell ⟨g,i,none⟩ (.int .u32 (x.toNat:Int))) g (s.set i x) b h n:=by
 have hl:=H.len8
 have hb:=H.len
 refine⟨?_,hb,by rw[List.length_set];exact hl⟩
 rw[ZaD H.blk]
 simp only[sumL,List.setIfInBounds_toArray]
 rw[List.set_append_left _ _ (by rw[Vx6];omega),List.map_set]
 rfl
theorem SumIs.set_hd(H:SumIs w g s b h n)(m:Nat):SumIs (w.setCell ⟨g,72,none⟩ (.int .i64 m)) g s b m n:=by
 have hl:=H.len8
 have hb:=H.len
 refine⟨?_,hb,hl⟩
 rw[ZaD H.blk]
 simp only[sumL,List.setIfInBounds_toArray]
 rw[List.set_append_right _ _ (by rw[Vx6];omega),Vx6,hl,List.set_append_right _ _ (by rw[Vx6];omega),Vx6,hb]
 rfl
theorem SumIs.set_ct(H:SumIs w g s b h n)(m:Nat):SumIs (w.setCell ⟨g,73,none⟩ (.int .u64 m)) g s b h m:=by
 have hl:=H.len8
 have hb:=H.len
 refine⟨?_,hb,hl⟩
 rw[ZaD H.blk]
 simp only[sumL,List.setIfInBounds_toArray]
 rw[List.set_append_right _ _ (by rw[Vx6];omega),Vx6,hl,List.set_append_right _ _ (by rw[Vx6];omega),Vx6,hb]
 rfl
theorem SumIs.drewN(H:SumIs w g s b h n)(k:Nat):SumIs (w.drewN k) g s b h n:=⟨H.blk,H.len,H.len8⟩
theorem SumIs.bel{w':World}(H:SumIs w g s b h n)(hb:Below w.heap.size w w'):SumIs w' g s b h n:=⟨(hb.block _ (block_lt H.blk)).trans H.blk,H.len,H.len8⟩
theorem SumIs.fr(H:SumIs w g s b h n)(i:Nat):w.frozen? ⟨g,i,none⟩=false:=Zap H.blk i
end
theorem YeE(s:List UInt32)(b:List UInt8)(h n:Nat)(hl:s.length=8)(hb:b.length=64):(sumL s b h n).length=74:=by
 simp[sumL,hl,hb]
theorem Zuc(s:List UInt32)(b x:List UInt8)(h n:Nat)(hl:s.length=8)(hb:b.length=64)(hx:h+x.length≤64):splice (sumL s b h n) (8+h) (x.map bv)=sumL s (splice b h x) h n:=by
 unfold splice sumL
 rw[List.take_append,Vx6,hl,Nat.add_sub_cancel_left,List.take_of_length_le (by rw[Vx6];omega)]
 rw[List.take_append_of_le_length (by rw[Vx6];omega)]
 rw[Vx6,List.drop_append,Vx6,hl,show 8+h+x.length-8=h+x.length by omega,List.drop_eq_nil_of_le (by rw[Vx6];omega),List.nil_append]
 rw[List.drop_append_of_le_length (by rw[Vx6];omega)]
 simp[List.append_assoc]
theorem YdS(x:UInt32)(y:UInt8):bits .or .u32 ((x.toNat:Int) * 256 % 4294967296) (y.toNat:Int)=((adb (m256 x) y).toNat:Int):=by
 have hx:=x.toNat_lt
 have hy:=y.toNat_lt
 have e2:(x.toNat:Int) * 256 % 4294967296=((x.toNat * 256 % 4294967296:Nat):Int):=by simp
 rw[e2,u32_or_nat _ _ (Nat.mod_lt _ (by decide)) (by omega)]
 have h1:x.toNat * 256 % 4294967296=(x.toNat % 16777216) <<< 8:=by rw[Nat.shiftLeft_eq];omega
 rw[h1,←Nat.shiftLeft_add_eq_or_of_lt (show y.toNat<2 ^ 8 by omega),←h1]
 rw[← Zyd,←ZuV]
 omega
def wd1(b:List UInt8):Nat→List UInt32
 |0=>List.replicate 64 0
 |i+1=>(wd1 b i).set (i / 4) (adb (m256 ((wd1 b i).getD (i / 4) 0)) (b.getD i 0))
theorem YbO(b:List UInt8)(i:Nat):(wd1 b i).length=64:=by
 induction i with
 |zero=>simp[wd1]
 |succ i ih=>simp[wd1,ih]
theorem YeX(b:List UInt8)(hb:b.length=64)(t:Nat)(ht:t<16)(h0:wd1 b (4 * t)=sch1 b t):∀i:Nat,i≤4→wd1 b (4 * t+i)=(sch1 b t).set t (w32 ((b.drop (4 * t)).take i)):=by
 intro i
 induction i with
 |zero=>intro _;rw[Nat.add_zero,h0,List.take_zero,show w32 []=0 from rfl,Zsh _ _ (by omega)]
 |succ i ih=>
  intro hi
  rw[show 4 * t+(i+1)=(4 * t+i)+1 by omega,wd1,ih (by omega),show (4 * t+i) / 4=t by omega,List.set_set]
  rw[take_drop_succ b t i (by omega),ZvO]
  have e1:((sch1 b t).set t (w32 ((b.drop (4 * t)).take i))).getD t 0=w32 ((b.drop (4 * t)).take i):=by
   rw[List.getD_eq_getElem?_getD,List.getElem?_set_self (by rw[Zmd];omega)]
   rfl
  have e2:b.getD (4 * t+i) 0=b[4 * t+i]'(by omega):=by rw[List.getD_eq_getElem?_getD,Vx9 (by omega)];rfl
  rw[e1,e2]
theorem YhW(b:List UInt8)(hb:b.length=64):∀t:Nat,t≤16→wd1 b (4 * t)=sch1 b t:=by
 intro t
 induction t with
 |zero=>intro _;rfl
 |succ t ih=>
  intro ht
  rw[show 4 * (t+1)=4 * t+4 by omega,YeX b hb t (by omega) (ih (by omega)) 4 (Vx8 _)]
  rfl
section
variable{P:Program}
theorem ZlQ(w:World)(g off:Nat)(ty:TypeId)(cs:List Value)(d:TypeDesc)(hg:∀j v,cs[j]? =some v→w.cell? ⟨g,off+j,none⟩=some v)
  (hu:P.underlying ty=some d) (hd:(match d with| .struct _| .array _ _=>true|_=>false)=true) (hi:(P.info? ty).map (·.size)=some cs.length):
  (loadVar ty ⟨g,off,none⟩).run P w=.ok (.agg cs.toArray) w:=by
 have hl:(loadCells ⟨g,off,none⟩ cs.length).run P w=.ok cs.toArray w:=
  run_loadCells_list (P:=P) w ⟨g,off,none⟩ cs (fun j v hv=>by
   have hadd:(⟨g,off,none⟩:Addr).add j=⟨g,off+j,none⟩:=by unfold Addr.add;split<;>simp_all
   rw[hadd]
   exact hg j v hv)
 cases hq:P.info? ty with
 |none=>simp[hq]at hi
 |some i=>
  have hs:i.size=cs.length:=by simpa [hq] using hi
  have hagg:(isAgg ty).run P w=.ok true w:=by
   unfold isAgg
   rw[Sem.run_bind,run_underlying hu w]
   cases d<;>simp_all
  simp[loadVar,Sem.run_bind,hagg,sizeOf,typeInfo,hq,hs,hl]
theorem ZlS{ops:Array Oper}{rest:List Oper}{o:Oper}{a:Act}{w:World}{Q:Exit→Act→World→Prop}(hgd:o.guard=none)(ty:TypeId)(x:Operand)(ho:o.op=.load ty x)
  (g off:Nat) (hx:a.eval x=.pointer (some ⟨g,off,none⟩)) (cs:List Value) (d:TypeDesc) (hg:∀j v,cs[j]? =some v→w.cell? ⟨g,off+j,none⟩=some v)
  (hu:P.underlying ty=some d) (hd:(match d with| .struct _| .array _ _=>true|_=>false)=true) (hi:(P.info? ty).map (·.size)=some cs.length)
  (h:wpList P ops Q rest (a.put o.dst (.agg cs.toArray)) w):wpList P ops Q (o::rest) a w:=
 wpList_plain hgd fun _ hK=>by
  unfold Oper.wp execOp
  simp only[ho,hx,Instr.loadAt,Instr.sureAddr,Sem.run_bind,Sem.run_pure,Result.andThen_ok,ZlQ w g off ty cs d hg hu hd hi]
  exact hK _ _ h
end
def s00:S8:=⟨0,0,0,0,0,0,0,0⟩
def zsum:Array Value:=(sumL s00.list (List.replicate 64 0) 0 0).toArray
def nsum:Array Value:=(sumL S0.list (List.replicate 64 0) 0 0).toArray
theorem Zpy:(Tryd.prog.info? 95).map (fun i=>(i.zero,i.size))=some (some (.agg zsum),zsum.size):=by kernel_rfl
theorem Zt8:(Tryd.prog.info? 95).map (·.size)=some 74:=by kernel_rfl
theorem Yfu:(Tryd.prog.info? 5).map (·.size)=some 1:=by kernel_rfl
theorem Yhw:(Tryd.prog.info? 93).map (·.size)=some 64:=by kernel_rfl
set_option maxRecDepth 100000 in
theorem Zw2(w:World):Calls Tryd.prog 55 #[] w fun r w'=>r=.returned (.agg nsum)∧Below w.heap.size w w':=by
 have hz:∀w,(zeroValue 95).run Tryd.prog w=.ok (.agg zsum) w:=fun w=>by
  have h:=Zpy
  cases hq:Tryd.prog.info? 95 with
  |none=>rw[hq]at h;cases h
  |some i=>
   rw[hq]at h
   simp only[Option.map_some,Option.some.injEq,Prod.mk.injEq]at h
   simp[zeroValue,typeInfo,hq,h.1]
 have hzs:zsum.size=74:=by decide +kernel
 go_enter Tryd.func55,Tryd.ntmps55
 go_wp2_with (first
  |(with_reducible refine Zac rfl 95 rfl zsum Zpy ?_)
  |((with_reducible refine wpList_store_row rfl 95 (.tmp 0) (.tmp 2) rfl w.heap.size nsum rfl ?_ 95 zsum ?_ ?_ ?_ ?_ ?_);rfl;exact Vx0 w _;exact Zt8;decide +kernel;decide +kernel;intro w1 hg1 hb1 hs1))
 refine Vy0 (v:=.agg nsum) ?_ rfl ⟨rfl,?_⟩
 ·exact results_cell_row Tryd.results55 _ _ w.heap.size 95 _ (0,0) _ rfl hg1 Tryd.underlying95 rfl Zt8
 ·exact((Zad w _).grown hb1 (by simp) (by simp))
theorem Zqk(x:UInt32)(ni:Int)(w:World)(h1:1≤ni)(h2:ni≤31):
  Calls Tryd.prog 74 #[.int .u32 (x.toNat:Int),.int .i64 ni] w fun e w'=>e=.returned (.int .u32 ((rotr x ni.toNat).toNat:Int))∧w=w':=
 Zxy x ni.toNat ni w (by omega) (by omega) (by omega)
set_option maxRecDepth 100000 in
theorem Zuh(g:Nat)(s:List UInt32)(b:List UInt8)(h n:Nat)(w:World)(H:SumIs w g s b h n):
  Calls Tryd.prog 73 #[.pointer (some ⟨g,0,none⟩)] w fun r w'=>r=.returned (.agg (wvs (sched b)))∧Below w.heap.size w w':=by
 have hb64:=H.len
 have hbl (w':World) (hb:Below w.heap.size w w'):∀j v,(b.map bv)[j]? =some v→w'.cell? ⟨g,8+j,none⟩=some v:=by
  intro j v hv
  have hj:j<64:=by have:=(List.getElem?_eq_some_iff.1 hv).1;simpa [hb64] using this
  rw[(H.bel hb).bl j hj,←hv,List.getElem?_map,Vx9 (by omega),List.getD_eq_getElem?_getD,Vx9 (by omega)]
  rfl
 have Hb:=hid (hbl _ (Zad (w.alloc (.cells z64 115)) (.cells z64 115)|>fun h=>(Zad w _).trans (h.mono (by simp))))
 have Hl:=hid hb64
 clear hbl H hb64
 go_enter Tryd.func73,Tryd.ntmps73
 go_wp2_with (first
  |(with_reducible refine Zac rfl 115 rfl z64 ZoF ?_)
  |((with_reducible refine ZlS rfl 93 (.tmp 13) rfl g 8 ?_ (b.map bv) _ ?_ Tryd.underlying93 rfl ?_ ?_);rfl;exact Hb.out;(rw[Vx6,Hl.out];exact Yhw)))
 go_loopw [15] (fun v wr=>∃i:Nat,i≤64∧v=.int .i64 i∧SI w wr (wd1 b i)) (fun v _=>64-(intOf v).toNat)
 case atStart=>exact⟨0,Nat.zero_le _,rfl,SI.new w⟩
 case round=>
  obtain⟨i,hi,rfl,hs⟩:=hrel
  by_cases hlt:i<64
  ·have hq:i<(b.map bv).length:=by rw[Vx6,Hl.out];omega
   have hi4:i / 4<64:=by omega
   have hx:wr.cell? ⟨w.heap.size+1,i / 4,none⟩=some (.int .u32 (((wd1 b i).getD (i / 4) 0).toNat:Int)):=by
    rw[Zbl hs.cur (i / 4) (by rw[YbO];omega),ZdJ _ _ (by rw[YbO];omega)]
   have hf:=Zap hs.cur (i / 4)
   have E:=hid (show wd1 b (i+1)=(wd1 b i).set (i / 4) (adb (m256 ((wd1 b i).getD (i / 4) 0)) (b.getD i 0)) from rfl)
   have hv:(b.map bv).toArray[i]? =some (.int .u8 ((b.getD i 0).toNat:Int)):=by
    rw[List.getElem?_toArray,List.getElem?_map,Vx9 (by rw[Hl.out];omega),List.getD_eq_getElem?_getD,Vx9 (by rw[Hl.out];omega)]
    rfl
   have hsz:(b.map bv).toArray.size=64:=by simp[Hl.out]
   generalize (wd1 b i).getD (i / 4) 0=x at *
   generalize b.getD i 0=y at *
   generalize (b.map bv).toArray=bs at *
   have hix:(Instr.index 93 (.agg bs) (.int .i64 (i:Int))).run Tryd.prog wr=.ok (.int .u8 (y.toNat:Int)) wr:=Zho _ _ _ _ _ _ _ _ Tryd.underlying93 Tryd.underlying5 Yfu hlt hv
   have Hs:=hid hs
   clear hs hq hv hsz
   have ob:=YdS x y
   have i4:(i:Int).tdiv 4=((i / 4:Nat):Int):=by rw[Int.tdiv_eq_ediv_of_nonneg (by omega)];omega
   have f1:IntKind.i64.wrap ((i:Int))=(i:Int):=IntWalk.i64_in _ (by omega)
   have j1:(i:Int)<64:=by omega
   have ym:(y.toNat:Int) % 4294967296=(y.toNat:Int):=by have:=y.toNat_lt;omega
   go_wp2
   go_roundw
   case rel=>
    refine⟨i+1,by omega,by go_num,?_⟩
    rw[E.out]
    exact Hs.out.set (i / 4) _
   case measure=>simp[intOf];omega
  ·have Ht:Hid (i=64):=by show i=64;omega
   rw[Ht.out,show (64:Nat)=4 * 16 from rfl,YhW b Hl.out 16 (Vx8 _)]at hs
   have Hs:=hid hs
   have i64:(64:Int)≤i:=by omega
   clear hs
   go_wp2
   go_loopw [6] (fun v wr=>∃i:Nat,i≤48∧v=.int .i64 ((i:Int)+16)∧SI w wr (sch2 b i)) (fun v _=>64-(intOf v).toNat)
   case atStart=>exact⟨0,Nat.zero_le _,rfl,Hs.out⟩
   case round=>
    clear hi hlt Ht i64
    obtain⟨i,hi,rfl,hsi⟩:=hrel
    by_cases hli:i<48
    ·as_aux_lemma=>
     have h64:=Zd0 b i
     have hc (j:Nat) (hj:j<64):wr.cell? ⟨w.heap.size+1,j,none⟩=some (.int .u32 (((sch2 b i).getD j 0).toNat:Int)):=by
      rw[Zbl hsi.cur j (by omega),ZdJ _ _ (by omega)]
     have c0:=hc i (by omega)
     have c1:=hc (i+1) (by omega)
     have c9:=hc (i+9) (by omega)
     have c14:=hc (i+14) (by omega)
     have c16:=hc (i+16) (by omega)
     have hf:=Zap hsi.cur (i+16)
     have E:=hid (show sch2 b (i+1)=(sch2 b i).set (i+16) (ad (ad (ad ((sch2 b i).getD i 0) (s0 ((sch2 b i).getD (i+1) 0))) ((sch2 b i).getD (i+9) 0)) (s1 ((sch2 b i).getD (i+14) 0))) from rfl)
     have Hsi:=hid hsi
     clear hsi hc h64
     generalize (sch2 b i).getD i 0=x0 at *
     generalize (sch2 b i).getD (i+1) 0=x1 at *
     generalize (sch2 b i).getD (i+9) 0=x9 at *
     generalize (sch2 b i).getD (i+14) 0=x14 at *
     generalize (sch2 b i).getD (i+16) 0=x16 at *
     have am:=Zfl
     have xb:=Zks
     have sd3:∀x:UInt32,(x.toNat:Int) / 8=((shr x 3).toNat:Int):=fun x=>by have:=Zp7 x 3;simpa using this
     have sd10:∀x:UInt32,(x.toNat:Int) / 1024=((shr x 10).toNat:Int):=fun x=>by have:=Zp7 x 10;simpa using this
     have f1:IntKind.i64.wrap ((i:Int)+16-15)=(i:Int)+16-15:=IntWalk.i64_in _ (by omega)
     have g1:((i:Int)+16-15).toNat=i+1:=by omega
     have f2:IntKind.i64.wrap ((i:Int)+16-2)=(i:Int)+16-2:=IntWalk.i64_in _ (by omega)
     have g2:((i:Int)+16-2).toNat=i+14:=by omega
     have f3:IntKind.i64.wrap (i:Int)=(i:Int):=IntWalk.i64_in _ (by omega)
     have b3:(i:Int)<64:=by omega
     have b4:(i:Int)+16-7<64:=by omega
     have b6:(0:Int)≤(i:Int)+16-7:=by omega
     have b7:(7:Int)≤(i:Int)+16:=by omega
     have b8:(i:Int)+16<71:=by omega
     have b11:(0:Int)≤(i:Int)+16:=by omega
     have b12:(i:Int)<48:=by omega
     have b9:decide ((0:Int)≤(i:Int)+16-7)=true:=by rw[decide_eq_true_iff];omega
     have b10:decide ((i:Int)+16-7<64)=true:=by rw[decide_eq_true_iff];omega
     have f4:IntKind.i64.wrap ((i:Int)+16-7)=(i:Int)+16-7:=IntWalk.i64_in _ (by omega)
     have g4:((i:Int)+16-7).toNat=i+9:=by omega
     have g5:((i:Int)+16).toNat=i+16:=by omega
     have b5:(i:Int)+16<64:=by omega
     go_wp2
     go_quiet (fail)
     go_wp2_with (go_at_call 74;refine(Zqk _ _ _ (by omega) (by omega)).mono ?_;rintro e' w' ⟨rfl,rfl⟩)
     go_region_held3 (fun w'=>w'.cell? ⟨w.heap.size+1,i,none⟩=some (.int .u32 (x0.toNat:Int))∧w'.cell? ⟨w.heap.size+1,i+9,none⟩=some (.int .u32 (x9.toNat:Int))) (first|go_keep|(simp[*,World.cell?_setCell_other])) (fail)
     go_wp2
     go_roundw
     case rel=>
      refine⟨i+1,by omega,by go_num,?_⟩
      rw[E.out,Zfl,Zfl,Zfl]
      exact(Hsi.out.drewN _).set (i+16) _
     case measure=>simp[intOf];omega
    ·obtain rfl:i=48:=by omega
     have Hsi:=hid hsi
     have hcur:=hid hsi.cur
     have hres:=hid hsi.res
     clear hsi
     go_wp2_with (first
      |((with_reducible refine wpList_load_row rfl 115 (.tmp 3) rfl (w.heap.size+1) rfl 115 (wvs (sch2 b 48)) (0,0) _ ?_ Tryd.underlying115 rfl ?_ ?_);exact hcur.out;(rw[Zcv,Zd0];exact Zh8))
      |((with_reducible refine stW 2 74 w.heap.size 115 z64 ?_ ?_ ?_ ?_ ?_);exact hres.out;(rw[Zcv,Zd0];exact Zh8);(rw[Zcv,Zd0];exact Zkt);exact Zjt _;intro w1 hg1 hb1 hs1))
     refine Vy0 (v:=.agg (wvs (sched b))) ?_ rfl ⟨rfl,?_⟩
     ·exact results_cell_row Tryd.results73 _ _ w.heap.size 115 _ (0,0) _ rfl hg1 Tryd.underlying115 rfl (by rw[Zcv];show _=some (sch2 b 48).length;rw[Zd0];exact Zh8)
     ·exact Hsi.out.below.grown hb1 Hsi.out.below.size (by simp)
theorem Yke:(Tryd.prog.info? 91).map (·.size)=some 1:=by kernel_rfl
def Tab(w:World):Prop:=∀i:Nat,i<64→w.cell? ⟨0,i,none⟩=some (.int .u32 ((Kw.getD i 0).toNat:Int))
theorem Tab.bel{w w':World}{g:Nat}(h:Tab w)(hb:Below g w w')(hg:0<g):Tab w':=fun i hi=>(hb.cell (p:=⟨0,i,none⟩) hg).trans (h i hi)
theorem Tab.low{w:World}(h:Tab w):0<w.heap.size:=Vx5 _ _ (h 0 (by omega))
theorem YdD(x:UInt32):bits .xor .u32 (if IntKind.u32.signed=true then -1 else IntKind.u32.max) (x.toNat:Int)=((no x).toNat:Int):=by
 have h:(if IntKind.u32.signed=true then -1 else IntKind.u32.max)=(((4294967295:UInt32).toNat:Nat):Int):=by decide
 rw[h,Zks]
 congr 2
theorem YeR(x:UInt32)(ni:Int)(w:World)(h1:1≤ni)(h2:ni≤31):
  Calls Tryd.prog 74 #[.int .u32 (x.toNat:Int),.int .i64 ni] w fun e w'=>e=.returned (.int .u32 ((rotr x ni.toNat).toNat:Int))∧w'=w:=
 (Zqk x ni w h1 h2).mono fun _ _ ⟨h,k⟩=>⟨h,k.symm⟩
set_option maxRecDepth 100000 in
theorem YeQ(g:Nat)(s:S8)(b:List UInt8)(h n:Nat)(w:World)(H:SumIs w g s.list b h n)(hT:Tab w)(hg:0<g):
  Calls Tryd.prog 70 #[.pointer (some ⟨g,0,none⟩)] w fun r w'=>r=.returned (.tuple #[])∧SumIs w' g (s.plus (s.rounds (sched b) 64)).list b h n∧Below g w w':=by
 have hsc:Hid ((sched b).length=64):=Zd0 b 48
 obtain⟨ws,hws⟩:∃ws,ws=sched b:=⟨_,rfl⟩
 rw[← hws]at hsc ⊢
 replace hws:=hid hws
 go_enter Tryd.func70,Tryd.ntmps70
 go_wp2_with fail
 refine(Zuh g _ b h n _ H).mono ?_
 rintro e w1 ⟨rfl,hb1⟩
 rw[← hws.out]
 have hgl:g<w.heap.size:=block_lt H.blk
 have hgl1:g<w1.heap.size:=Vx4 hgl hb1.size
 go_wp2_with (first
  |(with_reducible refine Zac rfl 115 rfl z64 ZoF ?_)
  |((with_reducible refine stW 2 17 _ 115 z64 ?_ ?_ ?_ ?_ ?_);exact Vx0 _ _;(rw[Zcv,hsc.out];exact Zh8);(rw[Zcv,hsc.out];exact Zkt);exact Zjt _;intro w2 hg2 hb2 hs2;have B2:Below w1.heap.size w1 w2:=(Zad w1 _).grown hb2 (by simp) (fun k hk=>by injection hk with hk;omega);have H2:=hid ((H.bel hb1).bel B2);have c0:=H2.out.st 0 (by omega);have c1:=H2.out.st 1 (by omega);have c2:=H2.out.st 2 (by omega);have c3:=H2.out.st 3 (by omega);have c4:=H2.out.st 4 (by omega);have c5:=H2.out.st 5 (by omega);have c6:=H2.out.st 6 (by omega);have c7:=H2.out.st 7 (by omega);simp only[S8.list,List.getD_cons_zero,List.getD_cons_succ]at c0 c1 c2 c3 c4 c5 c6 c7;replace hg2:=hid hg2;replace hs2:=hid hs2;replace hb2:=trivial))
 have C2:Below g w w2:=(hb1.mono (by omega)).trans (B2.mono (by omega))
 have T2:=hT.bel C2 hg
 replace C2:=hid C2
 replace T2:=hid T2
 clear H hT B2 hb1
 go_quiet (fail)
 go_wp2
 go_quiet (fail)
 go_wp2
 have W2:(w2.drewN (nq+nq)).heap=w2.heap:=rfl
 go_loopw [3,4,5,6,7,8,9,10,58] (fun va vb vc vd ve vf vg vh v wr=>∃t:Nat,t≤64∧v=.int .i64 t∧va=uv (s.rounds ws t).a∧vb=uv (s.rounds ws t).b∧vc=uv (s.rounds ws t).c∧vd=uv (s.rounds ws t).d∧ve=uv (s.rounds ws t).e∧vf=uv (s.rounds ws t).f∧vg=uv (s.rounds ws t).g∧vh=uv (s.rounds ws t).h∧Below w2.heap.size w2 wr) (fun _ _ _ _ _ _ _ _ v _=>64-(intOf v).toNat)
 case atStart=>exact⟨0,Nat.zero_le _,rfl,rfl,rfl,rfl,rfl,rfl,rfl,rfl,rfl,below_drewN (below_drewN (Below.refl _ _) _) _⟩
 case round=>
  obtain⟨t,ht,rfl,rfl,rfl,rfl,rfl,rfl,rfl,rfl,rfl,hbt⟩:=hrel
  by_cases hlt:t<64
  ·as_aux_lemma=>
   have cK:wr.cell? ⟨0,t,none⟩=some (.int .u32 ((Kw.getD t 0).toNat:Int)):=(hbt.cell (p:=⟨0,t,none⟩) (T2.out.low)).trans (T2.out t (by omega))
   have cW:wr.cell? ⟨w1.heap.size,t,none⟩=some (.int .u32 ((ws.getD t 0).toNat:Int)):=by
    rw[← ZdJ ws t (by rw[hsc.out];omega)]
    exact Zbl ((hbt.block _ (block_lt hg2.out)).trans hg2.out) t (by rw[hsc.out];omega)
   have E:=hid (show s.rounds ws (t+1)=(s.rounds ws t).round (Kw.getD t 0) (ws.getD t 0) from rfl)
   generalize Kw.getD t 0=xk at *
   generalize ws.getD t 0=xw at *
   generalize s.rounds ws t=v at *
   obtain⟨a,b,c,d,e,f,g',h'⟩:=v
   unfold uv
   simp only
   have am:=Zfl
   have nb:=YdD
   have xb:=Zks
   have ab:=Zuq
   have j1:(t:Int)<64:=by omega
   replace hbt:=hid hbt
   clear c0 c1 c2 c3 c4 c5 c6 c7
   go_wp2
   go_quiet ((refine Calls.quiet_of_same (YeR _ _ _ (by omega) (by omega))))
   go_wp2_with (go_at_call 74;refine(Zqk _ _ _ (by omega) (by omega)).mono ?_;rintro e' w' ⟨rfl,rfl⟩)
   go_roundw
   case rel=>
    refine⟨t+1,by omega,by go_num,?_⟩
    rw[E.out]
    refine⟨rfl,rfl,rfl,rfl,rfl,rfl,rfl,rfl,?_⟩
    exact below_drewN hbt.out _
   case measure=>simp[intOf];omega
  ·have Ht:Hid (t=64):=by show t=64;omega
   have Et:Hid (s.rounds ws t=s.rounds ws 64):=by show _=_;rw[Ht.out]
   have t1:(64:Int)≤t:=by omega
   generalize s.rounds ws t=v at *
   have Hw:=hid (H2.out.bel hbt)
   have Cw:=hid (C2.out.trans (hbt.mono (by have:=H2.out.blk|>block_lt;omega)))
   clear c0 c1 c2 c3 c4 c5 c6 c7 H2 hbt
   unfold uv
   go_wp2_with fail
   obtain⟨wp,rfl⟩:∃wp:World,wp=wr:=⟨_,rfl⟩
   go_loopw [130] (fun q wr=>∃j:Nat,j≤8∧q=.int .i64 j∧Below g wp wr∧SumIs wr g (plusTo s.list v.list j) b h n) (fun q _=>8-(intOf q).toNat)
   case atStart=>exact⟨0,Nat.zero_le _,rfl,Below.refl _ _,by rw[Znu];exact Hw.out⟩
   case round=>
    obtain⟨j,hj,rfl,hbj,hcur⟩:=hrel
    have hl8:s.list.length=8:=rfl
    have hl8v:v.list.length=8:=rfl
    by_cases hlt3:j<8
    ·as_aux_lemma=>
     have cS:=hcur.st j hlt3
     rw[List.getD_eq_getElem?_getD,ZoU s.list v.list j rfl (by omega)]at cS
     replace cS:wr.cell? ⟨g,j,none⟩=some (.int .u32 ((s.list.getD j 0).toNat:Int)):=cS
     have hf:=hcur.fr j
     have E:=hid (Znt s.list v.list j rfl (by omega))
     have hix:(Instr.index 92 (.agg #[.int .u32 (v.a.toNat:Int),.int .u32 (v.b.toNat:Int),.int .u32 (v.c.toNat:Int),.int .u32 (v.d.toNat:Int),.int .u32 (v.e.toNat:Int),.int .u32 (v.f.toNat:Int),.int .u32 (v.g.toNat:Int),.int .u32 (v.h.toNat:Int)]) (.int .i64 (j:Int))).run Tryd.prog wr=.ok (.int .u32 ((v.list.getD j 0).toNat:Int)) wr:=
      Zho 92 91 8 j .u32 (wvs v.list) (uv (v.list.getD j 0)) wr Tryd.underlying92 Tryd.underlying91 Yke hlt3 (by rw[wvs,List.getElem?_toArray,List.getElem?_map,Vx9 (by omega),ZdJ _ _ (by omega)];rfl)
     obtain⟨xs,hxs⟩:∃xs,xs=s.list.getD j 0:=⟨_,rfl⟩
     obtain⟨xv,hxv⟩:∃xv,xv=v.list.getD j 0:=⟨_,rfl⟩
     rw[← hxs]at cS
     rw[← hxv]at hix
     replace E:=hid (by rw[hxs,hxv];exact E.out:(plusTo s.list v.list j).set j (ad xs xv)=plusTo s.list v.list (j+1))
     clear hxs hxv
     replace hcur:=hid hcur
     replace hbj:=hid hbj
     have am:=Zfl
     have j1:(j:Int)<8:=by omega
     go_wp2
     go_still_tail 11,(by kernel_rfl)
     go_wp2
     go_roundw
     case rel=>
      refine⟨j+1,by omega,by go_num,?_,?_⟩
      ·have h:=hbj.out.setCell (p:=⟨g,j,none⟩) (Vx8 _) (.int .u32 ((ad xs xv).toNat:Int))
       exact⟨h.os,h.tape,h.output,h.size,h.block⟩
      ·rw[← E.out]
       have h:=hcur.out.set_st j hlt3 (ad xs xv)
       exact⟨h.blk,h.len,h.len8⟩
     case measure=>simp[intOf];omega
    ·as_aux_lemma=>
     have Hj:Hid (j=8):=by show j=8;omega
     rw[Hj.out]at hcur
     have j1:8≤j:=by omega
     go_wp2
     go_end0
     exact⟨rfl,by rw[S8.plus_list,←Et.out];exact hcur,Cw.out.trans hbj⟩
theorem Ybt(p x:List UInt8):∀q:Nat,64 * q≤p.length→stN (p++x) q=stN p q:=by
 intro q
 induction q with
 |zero=>intro _;rfl
 |succ q ih=>
  intro hq
  have e:((p++x).drop (64 * q)).take 64=(p.drop (64 * q)).take 64:=by
   rw[List.drop_append_of_le_length (by omega),List.take_append_of_le_length (by rw[List.length_drop];omega)]
  rw[stN,stN,ih (by omega),e]
def Str(w:World)(g:Nat)(p:List UInt8)(n:Nat):Prop:=
 ∃b,SumIs w g (stN p (p.length / 64)).list b (p.length % 64) n∧b.take (p.length % 64)=p.drop (64 * (p.length / 64))
def HeldS(w:World)(g:Nat)(s:S8)(b:List UInt8)(h n:Nat):Prop:=
 (h=64→SumIs w g (s.plus (s.rounds (sched b) 64)).list b 0 n)∧(h≠64→SumIs w g s.list b h n)
theorem Str.step{w:World}{g:Nat}{p x:List UInt8}{b:List UInt8}{n:Nat}(hb:b.take (p.length % 64+x.length)=p.drop (64 * (p.length / 64))++x)(hb64:b.length=64)(hle:p.length % 64+x.length≤64)
  (H:HeldS w g (stN p (p.length / 64)) b (p.length % 64+x.length) n):Str w g (p++x) n:=by
 have hl:(p++x).length=p.length+x.length:=Vx3
 by_cases hf:p.length % 64+x.length=64
 ·have h1:=H.1 hf
  have hq:(p++x).length / 64=p.length / 64+1:=by omega
  have hm:(p++x).length % 64=0:=by omega
  refine⟨b,?_,?_⟩
  ·rw[hq,hm,stN,Ybt p x _ (by omega)]
   have e:((p++x).drop (64 * (p.length / 64))).take 64=b:=by
    rw[List.drop_append_of_le_length (by omega),←hb,hf,List.take_take,Nat.min_self,List.take_of_length_le (by omega)]
   rw[e]
   exact h1
  ·rw[hm,hq,List.take_zero,List.drop_eq_nil_of_le (by omega)]
 ·have h1:=H.2 hf
  have hq:(p++x).length / 64=p.length / 64:=by omega
  have hm:(p++x).length % 64=p.length % 64+x.length:=by omega
  refine⟨b,?_,?_⟩
  ·rw[hq,hm,Ybt p x _ (by omega)]
   exact h1
  ·rw[hq,hm,hb,List.drop_append_of_le_length (by omega)]
theorem Str.bel{w w':World}{g:Nat}{p:List UInt8}{n:Nat}(h:Str w g p n)(hb:Below w.heap.size w w'):Str w' g p n:=by
 obtain⟨b,h1,h2⟩:=h
 exact⟨b,h1.bel hb,h2⟩
theorem ZnK(b x:List UInt8)(h:Nat)(hh:h≤b.length):(splice b h x).take (h+x.length)=b.take h++x:=by
 unfold splice
 have e:(b.take h).length=h:=by simp;omega
 rw[List.take_append,e,Nat.add_sub_cancel_left,List.take_append_of_le_length (by omega),List.take_of_length_le (l:=x) (by omega),List.take_take,Nat.min_eq_right (by omega)]
theorem Zxk(b:List UInt8)(h:Nat)(c:UInt8)(hh:h<b.length):b.set h c=splice b h [c]:=by
 unfold splice
 rw[List.set_eq_take_append_cons_drop,if_pos hh]
 rfl
theorem Zpw(g:Nat)(s:S8)(b:List UInt8)(h m n:Nat)(w:World)(H:SumIs w g s.list b h n)(hle:h+m≤64)(hT:Tab w)(hg:0<g):
  Calls Tryd.prog 64 #[.pointer (some ⟨g,0,none⟩),.int .i64 (m:Int)] w fun r w'=>r=.returned (.tuple #[])∧HeldS w' g s b (h+m) n∧Below g w w':=by
 have c1:=H.hd
 have f1:=H.fr 72
 have e1:IntKind.i64.wrap ((h:Int)+(m:Int))=((h+m:Nat):Int):=by rw[IntWalk.i64_in _ (by omega)];omega
 have hgl:=block_lt H.blk
 have H2:SumIs (w.setCell ⟨g,72,none⟩ (.int .i64 ((h+m:Nat):Int))) g s.list b (h+m) n:=H.set_hd (h+m)
 have B2:Below g w (w.setCell ⟨g,72,none⟩ (.int .i64 ((h+m:Nat):Int))):=(Below.refl g w).setCell (Vx8 _) _
 have c2:=H2.hd
 have T2:=hT.bel B2 hg
 by_cases hf:h+m=64
 ·have H3:SumIs (w.setCell ⟨g,72,none⟩ (.int .i64 64)) g s.list b 64 n:=by rw[hf]at H2;exact H2
  have T3:Tab (w.setCell ⟨g,72,none⟩ (.int .i64 64)):=by rw[hf]at T2;exact T2
  have B3:Below g w (w.setCell ⟨g,72,none⟩ (.int .i64 64)):=by rw[hf]at B2;exact B2
  rw[hf]at e1 c2 ⊢
  have e2:(h:Int)+(m:Int)=64:=by omega
  clear H2 T2 B2 H hf hle
  replace hT:=hid hT
  replace H3:=hid H3
  replace T3:=hid T3
  replace B3:=hid B3
  go_enter Tryd.func64,Tryd.ntmps64
  go_wp2_with fail
  refine(YeQ g s b 64 n _ H3.out T3.out hg).mono ?_
  rintro r w4 ⟨rfl,H4,B4⟩
  have f4:=H4.fr 72
  have c4:=H4.hd
  have H5:=hid (H4.set_hd 0)
  have B5:=hid ((B3.out.trans B4).setCell (p:=⟨g,72,none⟩) (Vx8 _) (.int .i64 ((0:Nat):Int)))
  clear H4 B4
  go_wp2_with fail
  go_end0
  exact⟨rfl,⟨fun _=>H5.out,fun hh=>absurd rfl hh⟩,B5.out⟩
 ·have e2:IntKind.i64.wrap ((h:Int)+(m:Int))=(h:Int)+(m:Int):=by rw[IntWalk.i64_in _ (by omega)]
  have t1:((h:Int)+(m:Int)==64)=false:=by simpa using (show (h:Int)+(m:Int)≠64 by omega)
  have e3:((h+m:Nat):Int)=(h:Int)+(m:Int):=by omega
  rw[e3]at H2 B2 c2
  clear e1 e3 T2 H
  replace H2:=hid H2
  replace B2:=hid B2
  replace hT:=hid hT
  replace hf:=hid hf
  go_enter Tryd.func64,Tryd.ntmps64
  go_wp2_with fail
  go_end0
  exact⟨rfl,⟨fun hh=>absurd hh hf.out,fun _=>H2.out⟩,B2.out⟩
set_option maxRecDepth 10000 in
theorem put_any(g:Nat)(p:List UInt8)(n:Nat)(c:UInt8)(w:World)(H:Str w g p n)(hT:Tab w)(hg:0<g):
  Calls Tryd.prog 65 #[.pointer (some ⟨g,0,none⟩),.int .u8 (c.toNat:Int)] w fun r w'=>r=.returned (.tuple #[])∧Str w' g (p++[c]) n∧Below g w w':=by
 obtain⟨b,HS,hb⟩:=H
 have hh:p.length % 64<64:=Nat.mod_lt _ (by decide)
 have hb2:(b.set (p.length % 64) c).take (p.length % 64+[c].length)=p.drop (64 * (p.length / 64))++[c]:=by
  rw[Zxk _ _ _ (by rw[HS.len];omega),ZnK _ _ _ (by rw[HS.len];omega),hb]
 have hst2:∀w',HeldS w' g (stN p (p.length / 64)) (b.set (p.length % 64) c) (p.length % 64+1) n→Str w' g (p++[c]) n:=fun w' hh'=>Str.step hb2 (by rw[List.length_set];exact HS.len) (by show p.length % 64+1≤64;omega) hh'
 clear hb2 hb
 generalize stN p (p.length / 64)=s at *
 generalize p.length % 64=h at *
 have c1:=HS.hd
 have c2:=HS.bl h hh
 have c3:=HS.fr (8+h)
 have hgl:=block_lt HS.blk
 have H2:=hid (HS.set_bl h hh c)
 have B2:=hid ((Below.refl g w).setCell (p:=⟨g,8+h,none⟩) (Vx8 _) (bv c))
 have h1:(h:Int)<64:=by omega
 have HT:=hid hT
 replace hst2:=hid hst2
 clear hT HS
 unfold bv at c2
 go_enter Tryd.func65,Tryd.ntmps65
 go_wp2_with fail
 go_region
 go_wp2_with fail
 refine(Zpw g s _ h 1 n _ (H2.out.drewN 1) (by omega) (HT.out.bel (below_drewN B2.out 1) hg) hg).mono ?_
 rintro r w4 ⟨rfl,H4,B4⟩
 go_wp2_with fail
 go_end0
 exact⟨rfl,hst2.out _ H4,(below_drewN B2.out 1).trans B4⟩
theorem Rd.low{w w':World}{A:Option Addr}{l:List UInt8}{g:Nat}(h:Rd w A l)(hA:0<l.length→∀a,A=some a→a.block<g)(hb:Below g w w'):Rd w' A l:=by
 intro hn
 obtain⟨b,o,rfl,hc⟩:=h hn
 exact⟨b,o,rfl,fun j x hx=>(hb.cell (p:=⟨b,o+j,none⟩) (hA hn ⟨b,o,none⟩ rfl)).trans (hc j x hx)⟩
theorem Str.count{w:World}{g:Nat}{p:List UInt8}{n:Nat}(H:Str w g p n):w.cell? ⟨g,73,none⟩=some (.int .u64 n)∧w.frozen? ⟨g,73,none⟩=false∧∀m:Nat,Str (w.setCell ⟨g,73,none⟩ (.int .u64 m)) g p m:=by
 obtain⟨b,h1,h2⟩:=H
 exact⟨h1.ct,h1.fr 73,fun m=>⟨b,h1.set_ct m,h2⟩⟩
set_option maxRecDepth 10000 in
theorem add_any(g:Nat)(p l:List UInt8)(A:Option Addr)(c n:Nat)(w:World)(H:Str w g p n)(hr:Rd w A l)(hA:0<l.length→∀a,A=some a→a.block<g)(hc:l.length≤c)(hcm:c≤maxLen)(hn:n+l.length≤1000000000)(hT:Tab w)(hg:0<g):
  Calls Tryd.prog 56 #[.pointer (some ⟨g,0,none⟩),.slice A l.length c] w fun r w'=>r=.returned (.tuple #[])∧Str w' g (p++l) (n+l.length)∧Below g w w':=by
 have hsz:(Tryd.prog.info? 5).map (·.size)=some 1:=Yfu
 obtain⟨k1,k2,k3⟩:=H.count
 have en:((n+l.length:Nat):Int)=(n:Int)+(l.length:Int):=by omega
 have k4:=k3 (n+l.length)
 have hgl:g<w.heap.size:=by obtain⟨b,h1,_⟩:=H;exact block_lt h1.blk
 have B1:=(Below.refl g w).setCell (p:=⟨g,73,none⟩) (Vx8 _) (.int .u64 ((n+l.length:Nat):Int))
 rw[en]at k4 B1
 have HT:=hid hT
 have hr1:=hid (hr.low hA B1)
 replace k4:=hid k4
 replace B1:=hid B1
 clear k3 H hT hr
 unfold maxLen at hcm
 have eN:∃N,N=n+l.length:=⟨_,rfl⟩
 obtain⟨N,hN⟩:=eN
 rw[← hN]at k4 ⊢
 clear hN en
 go_enter Tryd.func56,Tryd.ntmps56
 go_wp2_with fail
 go_loopw [1] (fun v wr=>∃(A':Option Addr) (c':Nat) (d r:List UInt8),l=d++r∧v=.slice A' r.length c'∧Rd wr A' r∧(0<r.length→∀a,A'=some a→a.block<g)∧r.length≤c'∧c'≤2 ^ 63-1∧Str wr g (p++d) N∧Below g w wr) (fun v _=>match v with| .slice _ n _=>n|_=>0)
 case atStart=>exact⟨A,c,[],l,rfl,rfl,hr1.out,hA,hc,hcm,by rw[List.append_nil];exact k4.out,B1.out⟩
 case round=>
  obtain⟨A',c',d,r,hl,rfl,hr',hA',hc',hcm',HS,hb⟩:=hrel
  replace hl:=hid hl
  clear hr1 k4 B1
  by_cases h0:0<r.length
  ·as_aux_lemma=>
   obtain⟨b,H1,H2⟩:=HS
   have hh:(p++d).length % 64<64:=Nat.mod_lt _ (by decide)
   have hst:∀(x:List UInt8) w',x.length+(p++d).length % 64≤64→HeldS w' g (stN (p++d) ((p++d).length / 64)) (splice b ((p++d).length % 64) x) ((p++d).length % 64+x.length) N→Str w' g ((p++d)++x) N:=by
    intro x w' hx hH
    refine Str.step ?_ ?_ (by omega) hH
    ·rw[ZnK _ _ _ (by rw[H1.len];omega),H2]
    ·rw[length_splice _ _ _ (by rw[H1.len];omega)];exact H1.len
   generalize stN (p++d) ((p++d).length / 64)=s at *
   generalize (p++d).length % 64=h at *
   have c1:=H1.hd
   have hm:∃m,m=min r.length (64-h):=⟨_,rfl⟩
   obtain⟨m,hm⟩:=hm
   have hm1:m≤r.length:=by omega
   have hm2:m≤64-h:=by omega
   have hm3:0<m:=by omega
   have hx:(r.take m).length=m:=by rw[List.length_take];omega
   have hcut:=hr'.cut m r.length c' hm1 (Vx8 _) hc'
   have hsp:=hid (Zuc s.list b (r.take m) h N rfl H1.len (by omega))
   have hfit:8+h+((r.take m).map bv).length≤(sumL s.list b h N).length:=by rw[YeE _ _ _ _ rfl H1.len,Vx6,hx];omega
   have hsrc:=(hr'.take m).src
   have hbv:=Zbn (r.take m)
   have hlen:((r.take m).map bv).length=Nat.min r.length (64-h):=by rw[Vx6,hx];exact hm
   obtain⟨x,hxx⟩:∃x,x=r.take m:=⟨_,rfl⟩
   rw[← hxx]at hx hsp hfit hsrc hbv hlen
   have E1:=hid (show r=x++r.drop m by rw[hxx,List.take_append_drop])
   have L1:=hid (show (r.drop m).length=r.length-m by rw[List.length_drop])
   have hcut2:Rd wr (if c'=m then A' else A'.map (·.add m)) (r.drop m):=by
    have h:=hcut
    rw[List.take_of_length_le (by rw[List.length_drop];omega)]at h
    exact h
   clear hcut hxx
   generalize r.drop m=r2 at *
   obtain⟨cs,hcs⟩:∃cs,cs=x.map bv:=⟨_,rfl⟩
   rw[← hcs]at hsp hfit hsrc hbv hlen
   replace hcs:=hid hcs
   obtain⟨cur,hcur⟩:∃cur,cur=sumL s.list b h N:=⟨_,rfl⟩
   rw[← hcur]at hsp hfit
   have hblk:wr.heap[g]? =some (.cells cur.toArray 95 (0,0)):=by rw[hcur];exact H1.blk
   replace hcur:=hid hcur
   have hne:¬(64=h):=by omega
   have hle:(h:Int)≤64:=by omega
   have r0:(0:Int)<(r.length:Int):=by omega
   have Hhblk:=hid hblk
   have Hfit:=hid hfit
   have Hsrc:=hid hsrc
   have Hbv:=hid hbv
   have Hlen:=hid hlen
   clear hblk hfit hsrc hbv hlen H2
   have hk:cs.length=m:=by rw[hcs.out,Vx6,hx]
   have hbl:(splice b h x).length=64:=by rw[length_splice _ _ _ (by rw[H1.len,hx];omega)];exact H1.len
   have hl8:s.list.length=8:=rfl
   have hst3:∀w',HeldS w' g s (splice b h x) (h+cs.length) N→Str w' g ((p++d)++x) N:=fun w' hh'=>hst x w' (by omega) (by rw[hx,←hk];exact hh')
   rw[← hk]at hcut2 L1 hm1 hm2 hm3
   have hk0:=hid hk
   have hx2:=hid hx
   replace hst3:=hid hst3
   replace hbl:=hid hbl
   have HA:=hid hA'
   have Hr:=hid hr'
   have hsum:=hid hh
   clear hk hm hx hst H1 hA' hr' hl8
   have i1:(cs.length:Int)≤r.length:=by omega
   have i2:¬r.length<cs.length:=by omega
   by_cases hcc:c'=cs.length
   ·as_aux_lemma=>
    subst hcc
    go_wp2_with fail
    go_still_tail 9,(by kernel_rfl)
    go_wp2_with (((with_reducible refine wpList_copy_splice rfl (.tmp 25) (.tmp 26) 68 68 rfl 5 Tryd.underlying68 hsz _ _ _ _ _ _ rfl rfl g (8+h) cur 95 ?_ cs ?_ ?_ ?_ ?_ g wr ?_ (Vx8 _) ?_);exact Hhblk.out;exact Hlen.out;exact fun hp=>⟨rfl,Hsrc.out hp⟩;exact Hfit.out;exact Hbv.out;exact⟨rfl,rfl,rfl,Vx8 _,fun _ _=>rfl⟩;intro w4 hg4 hb4))
    have H4:SumIs w4 g s.list (splice b h x) h N:=⟨by have h4:=hg4.out;rwa [hsp.out]at h4,hbl.out,rfl⟩
    have T4:=HT.out.bel (hb.trans hb4) hg
    refine(Zpw g s (splice b h x) h cs.length N w4 H4 (by omega) T4 hg).mono ?_
    rintro e w5 ⟨rfl,H5,B5⟩
    have S5:=hid (hst3.out _ H5)
    have B6:=hid ((hb.trans hb4).trans B5)
    have B7:=hid (hb4.trans B5)
    clear H4 T4 H5 B5 hb4 hg4
    go_wp2_with fail
    go_roundw
    case rel=>
     have h0:r2=[]:=List.eq_nil_of_length_eq_zero (by rw[L1.out];omega)
     refine⟨A',0,d++x,[],?_,rfl,fun hh'=>absurd hh' (by simp),fun hh'=>absurd hh' (by simp),Nat.zero_le _,by omega,?_,B6.out⟩
     ·rw[List.append_nil,hl.out,E1.out,h0,List.append_nil]
     ·rw[← List.append_assoc];exact S5.out
    case measure=>show 0<r.length;omega
   ·as_aux_lemma=>
    go_wp2_with fail
    go_still_tail 9,(by kernel_rfl)
    go_wp2_with (((with_reducible refine wpList_copy_splice rfl (.tmp 25) (.tmp 26) 68 68 rfl 5 Tryd.underlying68 hsz _ _ _ _ _ _ rfl rfl g (8+h) cur 95 ?_ cs ?_ ?_ ?_ ?_ g wr ?_ (Vx8 _) ?_);exact Hhblk.out;exact Hlen.out;exact fun hp=>⟨rfl,Hsrc.out hp⟩;exact Hfit.out;exact Hbv.out;exact⟨rfl,rfl,rfl,Vx8 _,fun _ _=>rfl⟩;intro w4 hg4 hb4))
    have H4:SumIs w4 g s.list (splice b h x) h N:=⟨by have h4:=hg4.out;rwa [hsp.out]at h4,hbl.out,rfl⟩
    have T4:=HT.out.bel (hb.trans hb4) hg
    refine(Zpw g s (splice b h x) h cs.length N w4 H4 (by omega) T4 hg).mono ?_
    rintro e w5 ⟨rfl,H5,B5⟩
    have S5:=hid (hst3.out _ H5)
    have B6:=hid ((hb.trans hb4).trans B5)
    have B7:=hid (hb4.trans B5)
    clear H4 T4 H5 B5 hb4 hg4
    go_wp2_with fail
    go_roundw
    case rel=>
     rw[if_neg hcc]at hcut2
     have HA2:0<r2.length→∀a,A'.map (·.add cs.length)=some a→a.block<g:=by
      intro _ a ha
      obtain⟨a0,ha0,rfl⟩:=Option.map_eq_some_iff.1 ha
      have h3:=HA.out h0 a0 ha0
      have h4:(a0.add cs.length).block=a0.block:=by unfold Addr.add;split<;>rfl
      omega
     refine⟨_,c'-cs.length,d++x,r2,?_,by rw[L1.out],hcut2.low HA2 B7.out,HA2,by rw[L1.out];omega,by omega,?_,B6.out⟩
     ·rw[hl.out,E1.out,List.append_assoc]
     ·rw[← List.append_assoc];exact S5.out
    case measure=>show r.length-cs.length<r.length;omega
  ·as_aux_lemma=>
   obtain rfl:r=[]:=List.eq_nil_of_length_eq_zero (by omega)
   have hd:l=d:=by rw[hl.out,List.append_nil]
   subst hd
   replace hr':=hid hr'
   replace HS:=hid HS
   go_wp2_with fail
   go_end0
   exact⟨rfl,HS.out,hb⟩
theorem Yif(n:Nat):∀size k:Nat,k<size→(be size n)[k]? =some (UInt8.ofNat (n / 256 ^ (size-1-k) % 256)):=by
 intro size
 induction size with
 |zero=>intro k h;omega
 |succ s ih=>
  intro k h
  rw[ZkG]
  rcases k with _|k
  ·rw[List.getElem?_cons_zero];rfl
  ·rw[List.getElem?_cons_succ,ih k (by omega),show s+1-1-(k+1)=s-1-k by omega]
theorem Zrb(n size k:Nat)(h:k<size):(be size n).take (k+1)=(be size n).take k++[UInt8.ofNat (n / 256 ^ (size-1-k) % 256)]:=by
 rw[List.take_add_one,Yif n size k h]
 rfl
theorem Yi9(n k:Nat):((n:Int) / 2 ^ (8 * k) % 256)=((UInt8.ofNat (n / 256 ^ k % 256)).toNat:Int):=by
 have e:(2:Int) ^ (8 * k)=((256 ^ k:Nat):Int):=by
  rw[Int.pow_mul];simp
 have e2:((n:Int) / 2 ^ (8 * k) % 256)=((n / 256 ^ k % 256:Nat):Int):=by rw[e];simp
 rw[e2]
 simp
theorem Str.held{w:World}{g:Nat}{p:List UInt8}{n:Nat}(H:Str w g p n):w.cell? ⟨g,72,none⟩=some (.int .i64 ((p.length % 64:Nat):Int)):=by
 obtain⟨b,h1,h2⟩:=H
 exact h1.hd
set_option maxRecDepth 10000 in
theorem Yg7(g:Nat)(l:List UInt8)(w:World)(H:Str w g l l.length)(hn:l.length≤1000000000)(hT:Tab w)(hg:0<g):
  Calls Tryd.prog 57 #[.pointer (some ⟨g,0,none⟩)] w fun r w'=>r=.returned (.tuple #[])∧Str w' g (padded l) l.length∧Below g w w':=by
 have P0:=hid (ZrT l)
 have k1:=H.count.1
 have hpad:=hid (show padded l=padP l (padZ l.length)++be 8 (8 * l.length) from rfl)
 obtain⟨N,hN⟩:∃N:Nat,N=8 * l.length:=⟨_,rfl⟩
 have e8:(l.length:Int) * 8=(N:Int):=by omega
 have hN2:N≤8000000000:=by omega
 rw[← hN]at hpad
 replace hN:=hid hN
 go_enter Tryd.func57,Tryd.ntmps57
 go_wp2_with fail
 refine(put_any g l l.length 128 w H hT hg).mono ?_
 rintro e w1 ⟨rfl,H1,B1⟩
 rw[P0.out]at H1
 replace H1:=hid H1
 replace B1:=hid B1
 replace hT:=hid hT
 clear k1
 go_wp2_with fail
 go_loopw [] (fun wr=>∃j:Nat,j≤padZ l.length∧Str wr g (padP l j) l.length∧Below g w wr) (fun wr=>match wr.cell? ⟨g,72,none⟩with|some (.int _ h)=>((120-h) % 64).toNat|_=>0)
 case atStart=>exact⟨0,Nat.zero_le _,H1.out,B1.out⟩
 case round=>
  obtain⟨j,hj,HS,hb⟩:=hrel
  have c1:=HS.held
  have hz:=ZtR l.length
  by_cases hlt:j<padZ l.length
  ·have ht:=ZrS l j hlt
   have P1:=hid (ZrR l j)
   have L0:=hid (Zew l j)
   have L1:=hid (Zew l (j+1))
   have HS2:=hid HS
   clear HS
   go_wp2_with fail
   refine(put_any g (padP l j) l.length 0 wr HS2.out (hT.out.bel hb hg) hg).mono ?_
   rintro e w2 ⟨rfl,H2,B2⟩
   rw[P1.out]at H2
   have c2:=hid H2.held
   replace H2:=hid H2
   have B3:=hid (hb.trans B2)
   clear B2
   go_wp2_with fail
   go_roundw
   case rel=>exact⟨j+1,by omega,H2.out,B3.out⟩
   case measure=>
    rw[c2.out,c1]
    show ((120-(((padP l (j+1)).length % 64:Nat):Int)) % 64).toNat<((120-(((padP l j).length % 64:Nat):Int)) % 64).toNat
    rw[L1.out,L0.out]
    unfold padZ at hlt
    omega
  ·have hjz:j=padZ l.length:=by omega
   subst hjz
   have ht:=ZrQ l
   have HS2:=hid HS
   generalize padP l (padZ l.length)=x at *
   clear HS hlt hj hz
   go_wp2_with fail
   go_loopw [18] (fun v wr=>∃k:Nat,k≤8∧v=.int .i64 k∧Str wr g (x++(be 8 N).take k) l.length∧Below g w wr) (fun v _=>8-(intOf v).toNat)
   case atStart=>exact⟨0,Nat.zero_le _,rfl,by rw[List.take_zero,List.append_nil];exact HS2.out,hb⟩
   case round=>
    clear HS2 hb c1 ht
    obtain⟨k,hk,rfl,HS3,hb3⟩:=hrel
    by_cases hlt:k<8
    ·as_aux_lemma=>
     have E:=hid (Zrb N 8 k hlt)
     obtain⟨m,hm⟩:∃m,m=7-k:=⟨_,rfl⟩
     rw[show 8-1-k=m by omega]at E
     have S:=Yi9 N m
     have f1:IntKind.i64.wrap (7-(k:Int))=(m:Int):=by rw[IntWalk.i64_in _ (by omega)];omega
     have g1:(7-(k:Int))=(m:Int):=by omega
     have f2:IntKind.i64.wrap (8 * (m:Int))=8 * (m:Int):=by rw[IntWalk.i64_in _ (by omega)]
     have hm7:m≤7:=by omega
     have j1:(k:Int)<8:=by omega
     generalize UInt8.ofNat (N / 256 ^ m % 256)=y at *
     replace hm:=hid hm
     replace HS3:=hid HS3
     go_wp2_with fail
     refine(put_any g (x++(be 8 N).take k) l.length y wr HS3.out (hT.out.bel hb3 hg) hg).mono ?_
     rintro e w2 ⟨rfl,H2,B2⟩
     rw[List.append_assoc,←E.out]at H2
     replace H2:=hid H2
     have B3:=hid (hb3.trans B2)
     clear B2
     go_wp2_with fail
     go_roundw
     case rel=>exact⟨k+1,by omega,by go_num,H2.out,B3.out⟩
     case measure=>simp[intOf];omega
    ·as_aux_lemma=>
     obtain rfl:k=8:=by omega
     rw[List.take_of_length_le (by rw[Zav];omega),←hpad.out]at HS3
     replace HS3:=hid HS3
     go_wp2_with fail
     go_end0
     exact⟨rfl,HS3.out,hb3⟩
structure DI (w wr:World) (l:List UInt8) (i:Nat):Prop where
 below:Below w.heap.size w wr
 res:wr.heap[w.heap.size]? =some (.cells z32 23 (0,0))
 cur:wr.heap[w.heap.size+1]? =some (.cells ((upTo l i).map bv).toArray 23 (0,0))
theorem DI.new(w:World)(l:List UInt8):DI w ((w.alloc (.cells z32 23)).alloc (.cells z32 23)) l 0:=
 ⟨(Zad w _).alloc (by simp) _,(Below.heap_alloc _ _ _ (by simp)).trans (Vx0 w _),by
  have e:(w.alloc (.cells z32 23)).heap.size=w.heap.size+1:=by simp
  rw[← e,ZnN]
  exact Vx0 (w.alloc (.cells z32 23)) (.cells z32 23)⟩
set_option maxRecDepth 10000 in
theorem Zwz(g:Nat)(s:S8)(b:List UInt8)(h n:Nat)(w:World)(H:SumIs w g s.list b h n):
  Calls Tryd.prog 58 #[.pointer (some ⟨g,0,none⟩)] w fun r w'=>r=.returned (.agg (s.bytes.map bv).toArray)∧Below w.heap.size w w':=by
 have hb32:=hid (S8.bytes_len s)
 have hfl:=hid (fun i j hj hi=>Yiu s.list i j hj hi)
 have hsb:=hid (show s.bytes=(s.list.map fun x=>be 4 x.toNat).flatten from rfl)
 have H1:=hid H
 have hgl:=block_lt H.blk
 clear H
 go_enter Tryd.func58,Tryd.ntmps58
 go_wp2_with ((with_reducible refine Zac rfl 23 rfl z32 Zam ?_))
 go_loopw [5] (fun v wr=>∃i:Nat,i≤32∧v=.int .i64 i∧DI w wr s.bytes i) (fun v _=>32-(intOf v).toNat)
 case atStart=>exact⟨0,Nat.zero_le _,rfl,DI.new w _⟩
 case round=>
  obtain⟨i,hi,rfl,hs⟩:=hrel
  by_cases hlt:i<32
  ·as_aux_lemma=>
   have cS:=(H1.out.bel hs.below).st (i / 4) (by omega)
   have E:=Zkp s.bytes i hb32.out hlt (UInt8.ofNat ((s.list.getD (i / 4) 0).toNat / 256 ^ (3-i % 4) % 256)) (by rw[hsb.out,←hfl.out (i / 4) (i % 4) (by omega) (by show _<8;omega),show 4 * (i / 4)+i % 4=i by omega])
   have cD:=Zcy hs.cur i (by rw[Zmh _ _ hb32.out hi];omega)
   have hf:=Zap hs.cur i
   obtain⟨m,hm⟩:∃m,m=3-i % 4:=⟨_,rfl⟩
   obtain⟨q,hq⟩:∃q,q=i / 4:=⟨_,rfl⟩
   obtain⟨r,hr⟩:∃r,r=i % 4:=⟨_,rfl⟩
   rw[← hm,←hq]at E
   rw[← hq]at cS
   generalize s.list.getD q 0=x at *
   have S:=Yi9 x.toNat m
   generalize UInt8.ofNat (x.toNat / 256 ^ m % 256)=y at *
   have q4:(i:Int).tdiv 4=(q:Int):=by rw[Int.tdiv_eq_ediv_of_nonneg (by omega)];omega
   have r4:(i:Int).tmod 4=(r:Int):=by rw[Int.tmod_eq_emod_of_nonneg (by omega)];omega
   have f1:IntKind.i64.wrap (3-(r:Int))=(m:Int):=by rw[IntWalk.i64_in _ (by omega)];omega
   have g1:(3-(r:Int))=(m:Int):=by omega
   have f2:IntKind.i64.wrap (8 * (m:Int))=8 * (m:Int):=by rw[IntWalk.i64_in _ (by omega)]
   have hm7:m≤3:=by omega
   have j1:(i:Int)<32:=by omega
   have i4:q<8:=by omega
   replace hq:=hid hq
   replace hr:=hid hr
   replace hm:=hid hm
   replace E:=hid E
   replace hs:=hid hs
   go_wp2_with fail
   go_roundw
   case rel=>
    refine⟨i+1,by omega,by go_num,hs.out.below.setCell (by simp) _,(Vy3 _ _ _ _ (by simp)).trans hs.out.res,?_⟩
    rw[← E.out]
    exact Zdd hs.out.cur i y
   case measure=>simp[intOf];omega
  ·as_aux_lemma=>
   obtain rfl:i=32:=by omega
   have hcur:=hs.cur
   rw[Zmg _ hb32.out]at hcur
   have hres:=hid hs.res
   replace hcur:=hid hcur
   replace hs:=hid hs
   have hz:((s.bytes.map bv).toArray).size=32:=by simp[hb32.out]
   go_wp2_with (first
    |((with_reducible refine wpList_load_row rfl 23 (.tmp 3) rfl (w.heap.size+1) rfl 23 ((s.bytes.map bv).toArray) (0,0) _ ?_ Tryd.underlying23 rfl ?_ ?_);exact hcur.out;(rw[hz];exact Zai))
    |((with_reducible refine stW 2 24 w.heap.size 23 z32 ?_ ?_ ?_ ?_ ?_);exact hres.out;(rw[hz];exact Zai);(rw[hz];exact z32_size);exact Zay _;intro w1 hg1 hb1 hs1))
   refine Vy0 (v:=.agg ((s.bytes.map bv).toArray)) ?_ rfl ⟨rfl,?_⟩
   ·exact results_cell_row Tryd.results58 _ _ w.heap.size 23 _ (0,0) _ rfl hg1 Tryd.underlying23 rfl (by rw[hz];exact Zai)
   ·exact hs.out.below.grown hb1 hs.out.below.size (by simp)
set_option maxRecDepth 100000 in
theorem Zep(A:Option Addr)(c n:Nat)(ls:List (List UInt8))(w:World)(hr:Rds w A ls)(hn:n=ls.length)(hn2:ls.length≤1000000)(hl:ls.flatten.length≤1000000)(hT:Tab w):
  Calls Tryd.prog 46 #[.slice A n c] w fun r w'=>r=.returned (.agg ((sha256 ls.flatten).map bv).toArray)∧Below w.heap.size w w':=by
 subst hn
 have hw0:=hT.low
 go_enter Tryd.func46,Tryd.ntmps46
 go_wp2_with (first
  |(with_reducible refine Zac rfl 23 rfl z32 Zam ?_)
  |(with_reducible refine Zac rfl 95 rfl zsum Zpy ?_))
 refine(Zw2 _).mono ?_
 rintro e w1 ⟨rfl,hb1⟩
 go_wp2_with (first
  |(with_reducible refine Zac rfl 95 rfl zsum Zpy ?_)
  |((with_reducible refine stW 3 6 _ 95 zsum ?_ ?_ ?_ ?_ ?_);exact Vx0 _ _;exact Zt8;rfl;decide +kernel;intro w2 hg2 hb2 hs2))
 have W12:Below w.heap.size w w2:=Zag (Zag (Zad w _) hb1) ((Zad w1 _).grown hb2 (by simp) (fun k hk=>by injection hk with hk;omega))
 have hgl:w.heap.size<w1.heap.size:=by have:=hb1.size;simp at this;omega
 have res2:w2.heap[w.heap.size]? =some (.cells z32 23 (0,0)):=
  (hb2.block _ (by simp;omega) (fun e=>by injection e with e;omega)).trans ((Below.heap_alloc _ _ _ hgl).trans ((hb1.block _ (by simp)).trans (Vx0 w _)))
 have S2:Str w2 w1.heap.size [] 0:=⟨List.replicate 64 0,⟨hg2,by simp,rfl⟩,rfl⟩
 generalize w1.heap.size=g at *
 clear hb1 hg2 hb2 hs2
 replace W12:=hid W12
 replace res2:=hid res2
 replace S2:=hid S2
 have T2:=hid (hT.bel W12.out hw0)
 have hg0:0<g:=by omega
 clear hT
 go_loopw [9] (fun v wr=>∃j:Nat,j≤ls.length∧v=.int .i64 j∧Str wr g (ls.take j).flatten (ls.take j).flatten.length∧Below g w2 wr) (fun v _=>ls.length-(intOf v).toNat)
 case atStart=>exact⟨0,Nat.zero_le _,rfl,by rw[List.take_zero];exact S2.out,Below.refl _ _⟩
 case round=>
  obtain⟨j,hj,rfl,HS,hb⟩:=hrel
  have hx:=Zgq ls j
  have hx2:=Zgq ls (j+1)
  have Wr:=W12.out.trans (hb.mono (by omega))
  by_cases hlt:j<ls.length
  ·as_aux_lemma=>
   obtain⟨b,o,rfl,hc⟩:=hr (by omega)
   obtain⟨A2,c2,hcell,hr2,hc2,hcm2⟩:=hc j _ (Vx9 hlt)
   have hcell2:=(Wr.cell (p:=⟨b,o+j,none⟩) (Vx5 _ _ hcell)).trans hcell
   have E:=hid (ZiO ls j hlt)
   have hA2:0<(ls[j]).length→∀a,A2=some a→a.block<g:=by
    intro h0 a ha
    obtain⟨b',o',hA',hc'⟩:=hr2 h0
    have h3:=Vx5 _ _ (hc' 0 _ (Vx9 h0))
    rw[ha]at hA'
    injection hA' with hA'
    subst hA'
    show b'<g
    have h4:b'<w.heap.size:=h3
    omega
   have hr3:=hid (hr2.bel Wr)
   rw[E.out,Vx3]at hx2
   generalize hy:(ls.take (j+1)).flatten=y at *
   replace hy:=hid hy
   generalize (ls.take j).flatten=x at *
   generalize ls[j]=z at *
   replace HS:=hid HS
   replace hA2:=hid hA2
   have Hb:=hid hb
   replace Wr:=hid Wr
   clear hc hr hcell hr2 hb
   have j1:(j:Int)<ls.length:=by omega
   go_wp2_with fail
   refine(add_any g x z A2 c2 x.length wr HS.out hr3.out hA2.out hc2 hcm2 (by omega) (T2.out.bel Hb.out hg0) hg0).mono ?_
   rintro e w3 ⟨rfl,S3,B3⟩
   replace S3:=hid S3
   have B4:=hid (Hb.out.trans B3)
   clear B3
   go_wp2_with fail
   go_roundw
   case rel=>
    refine⟨j+1,by omega,by go_num,?_,B4.out⟩
    rw[hy.out,E.out,Vx3]
    exact S3.out
   case measure=>simp[intOf];omega
  ·as_aux_lemma=>
   obtain rfl:j=ls.length:=by omega
   rw[List.take_length]at HS
   generalize hy:ls.flatten=x at *
   replace hy:=hid hy
   have HS2:=hid HS
   have Hb:=hid hb
   have Hres:=hid ((hb.block w.heap.size hgl).trans res2.out)
   replace Wr:=hid Wr
   clear HS hb hr
   go_wp2_with fail
   refine(Yg7 g x wr HS2.out (by omega) (T2.out.bel Hb.out hg0) hg0).mono ?_
   rintro e w3 ⟨rfl,S3,B3⟩
   obtain⟨b3,S4,-⟩:=S3
   have hsha:(stN (padded x) ((padded x).length / 64)).bytes=sha256 x:=rfl
   have R3:=hid ((B3.block _ hgl).trans Hres.out)
   have W3:=hid (Wr.out.trans (B3.mono (by omega)))
   clear B3
   go_wp2_with fail
   refine(Zwz g _ b3 _ _ w3 S4).mono ?_
   rintro e w4 ⟨rfl,B4⟩
   rw[hsha]
   have R4:=hid ((B4.block _ (block_lt R3.out)).trans R3.out)
   have W4:=hid (Zag W3.out B4)
   have hz:(((sha256 x).map bv).toArray).size=32:=by rw[← hsha];simp[S8.bytes_len]
   clear B4 S4
   obtain⟨dg,hdg⟩:∃dg,dg=sha256 x:=⟨_,rfl⟩
   rw[← hdg]at hz ⊢
   replace hdg:=hid hdg
   clear hsha
   go_wp2_with (((with_reducible refine stW 2 17 w.heap.size 23 z32 ?_ ?_ ?_ ?_ ?_);exact R4.out;(rw[hz];exact Zai);(rw[hz];exact z32_size);exact Zay _;intro w5 hg5 hb5 hs5))
   refine Vy0 (v:=.agg ((dg.map bv).toArray)) ?_ rfl ⟨by rw[hdg.out,hy.out],?_⟩
   ·exact results_cell_row Tryd.results46 _ _ w.heap.size 23 _ (0,0) _ rfl hg5 Tryd.underlying23 rfl (by rw[hz];exact Zai)
   ·exact W4.out.grown hb5 W4.out.size (by simp)
end Go.Proofs.YtimaoonpgilekaaDoor
