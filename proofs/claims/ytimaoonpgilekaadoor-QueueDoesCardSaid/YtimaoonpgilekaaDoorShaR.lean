import Derived.Test.YtimaoonpgilekaaDoorBits
import Derived.RegionTactic
import Derived.BigRegion
import Derived.StillTailTactics
set_option maxRecDepth 100000
set_option linter.all false
set_option maxHeartbeats 3200000
namespace Go.Proofs.YtimaoonpgilekaaDoor
open Go.RowKit
theorem YeP(x:UInt32)(n:Nat)(ni:Int)(w:World)(hn:ni=n)(h1:1≤n)(h2:n≤31):
  Calls Tryd.prog 80 #[.int .u32 (x.toNat:Int),.int .u32 ni] w fun e w'=>e=.returned (.int .u32 ((rotr x n).toNat:Int))∧w=w':=by
 subst hn
 have hx:=x.toNat_lt
 have hr:=Zsa x n
 have hx':x.toNat<4294967296:=hx
 clear hx
 go_enter Tryd.func80,Tryd.ntmps80
 go_wp2
 go_ret
 exact⟨rfl,rfl⟩
theorem YfA(x:UInt32)(ni:Int)(w:World)(h1:1≤ni)(h2:ni≤31):
  Calls Tryd.prog 80 #[.int .u32 (x.toNat:Int),.int .u32 ni] w fun e w'=>e=.returned (.int .u32 ((rotr x ni.toNat).toNat:Int))∧w=w':=
 YeP x ni.toNat ni w (by omega) (by omega) (by omega)
theorem Ya1(s:S8)(k t:UInt32)(w:World):
  Calls Tryd.prog 78 #[.agg s.vals,.int .u32 (k.toNat:Int),.int .u32 (t.toNat:Int)] w fun r w'=>r=.returned (.agg (s.round k t).vals)∧Below w.heap.size w w':=by
 obtain⟨a,b,c,d,e,f,g,h⟩:=s
 have am:=Zfl
 have xb:=Zks
 have ab:=Zuq
 have ns:=YgX
 have md:=YdA
 obtain⟨v,hv⟩:∃v,v=(S8.round ⟨a,b,c,d,e,f,g,h⟩ k t).vals:=⟨_,rfl⟩
 rw[← hv]
 replace hv:=hid hv
 unfold S8.vals uv
 go_enter Tryd.func78,Tryd.ntmps78
 go_wp2
 go_quiet (fail)
 go_wp2_with (go_at_call 80;refine(YfA _ _ _ (by omega) (by omega)).mono ?_;rintro e' w' ⟨rfl,rfl⟩)
 have hv2:=hv.out
 simp only[S8.vals,S8.round,uv,rT,rU]at hv2
 refine Vy0 (v:=.agg v) ?_ rfl ⟨rfl,?_⟩
 ·rw[hv2]
  simp[results,Tryd.results78,go_sem]
 ·clear am xb ab ns md hv hv2
  repeat (first|refine Below.setCell ?_ (by simp) _|refine below_drewN ?_ _|refine Below.alloc ?_ (by simp;try omega) _|exact Below.refl _ _)
def z64:Array Value:=wvs (List.replicate 64 0)
theorem Zkt:z64.size=64:=by decide +kernel
theorem ZoF:(Tryd.prog.info? 115).map (fun i=>(i.zero,i.size))=some (some (.agg z64),z64.size):=by kernel_rfl
theorem Zh8:(Tryd.prog.info? 115).map (·.size)=some 64:=by kernel_rfl
set_option maxRecDepth 100000 in
theorem YbR(w:World):Calls Tryd.prog 76 #[] w fun r w'=>r=.returned (.agg (wvs Kw))∧Below w.heap.size w w':=by
 go_enter Tryd.func76,Tryd.ntmps76
 go_wp2_with (first
  |(with_reducible refine Zac rfl 115 rfl z64 ZoF ?_)
  |((with_reducible refine stW 0 1 w.heap.size 115 z64 ?_ ?_ ?_ ?_ ?_);exact Vx0 w _;exact Zh8;exact Zkt;decide +kernel;intro w1 hg1 hb1 hs1))
 refine Vy0 (v:=.agg (wvs Kw)) ?_ rfl ⟨rfl,?_⟩
 ·exact results_cell_row Tryd.results76 _ _ w.heap.size 115 _ (0,0) _ rfl hg1 Tryd.underlying115 rfl Zh8
 ·exact((Zad w _).grown hb1 (by simp) (by simp))
structure SI (w wr:World) (ws:List UInt32):Prop where
 below:Below w.heap.size w wr
 res:wr.heap[w.heap.size]? =some (.cells z64 115 (0,0))
 cur:wr.heap[w.heap.size+1]? =some (.cells (wvs ws) 115 (0,0))
theorem SI.drewN{w wr:World}{ws:List UInt32}(h:SI w wr ws)(k:Nat):SI w (wr.drewN k) ws:=⟨below_drewN h.below k,h.res,h.cur⟩
theorem SI.set{w wr:World}{ws:List UInt32}(h:SI w wr ws)(i:Nat)(x:UInt32):SI w (wr.setCell ⟨w.heap.size+1,i,none⟩ (.int .u32 (x.toNat:Int))) (ws.set i x):=
 ⟨h.below.setCell (by simp) _,(Vy3 _ _ _ _ (by simp)).trans h.res,Zo1 h.cur i x⟩
theorem SI.new(w:World):SI w ((w.alloc (.cells z64 115)).alloc (.cells z64 115)) (List.replicate 64 0):=
 ⟨(Zad w _).alloc (by simp) _,(Below.heap_alloc _ _ _ (by simp)).trans (Vx0 w _),by
  have e:(w.alloc (.cells z64 115)).heap.size=w.heap.size+1:=by simp
  rw[← e]
  exact Vx0 (w.alloc (.cells z64 115)) (.cells z64 115)⟩
theorem take_drop_succ(l:List UInt8)(t i:Nat)(h:4 * t+i<l.length):(l.drop (4 * t)).take (i+1)=(l.drop (4 * t)).take i++[l[4 * t+i]]:=by
 rw[Vy5 (by simp;omega)]
 simp
set_option maxRecDepth 100000 in
theorem Zsi(A:Option Addr)(c n:Nat)(l:List UInt8)(w:World)(hr:Rd w A l)(hn:n=l.length)(hl:l.length=64):
  Calls Tryd.prog 77 #[.slice A n c] w fun r w'=>r=.returned (.agg (wvs (sched l)))∧Below w.heap.size w w':=by
 subst hn
 obtain⟨b,o,rfl,hcell⟩:=Zhl hr (by omega)
 have hblt:b<w.heap.size:=Vx5 _ _ (hcell 0 (by omega))
 have Hcell:=hid hcell
 have Hl:=hid hl
 rw[hl]
 clear hr hcell hl
 go_enter Tryd.func77,Tryd.ntmps77
 go_wp2_with ((with_reducible refine Zac rfl 115 rfl z64 ZoF ?_))
 go_loopw [4] (fun v wr=>∃t:Nat,t≤16∧v=.int .i64 t∧SI w wr (sch1 l t)) (fun v _=>16-(intOf v).toNat)
 case atStart=>exact⟨0,Nat.zero_le _,rfl,SI.new w⟩
 case round=>
  obtain⟨t,ht,rfl,hs⟩:=hrel
  have Hs:=hid hs
  clear hs
  obtain⟨wo,rfl⟩:∃wo:World,wo=wr:=⟨_,rfl⟩
  by_cases hlt:t<16
  ·go_wp2
   go_loopw [5] (fun v wr=>∃i:Nat,i≤4∧v=.int .i64 i∧SI w wr ((sch1 l t).set t (w32 ((l.drop (4 * t)).take i)))) (fun v _=>4-(intOf v).toNat)
   case atStart=>exact⟨0,Nat.zero_le _,rfl,by rw[List.take_zero,show w32 []=0 from rfl,Zsh _ _ (by omega)];exact Hs.out⟩
   case round=>
    obtain⟨i,hi,rfl,hsi⟩:=hrel
    by_cases hli:i<4
    ·have hq:4 * t+i<l.length:=by rw[Hl.out];omega
     have hx:=Zbl hsi.cur t (by simp[Zmd];omega)
     rw[List.getElem_set_self]at hx
     have hy:=(hsi.below.cell (p:=⟨b,o+(4 * t+i),none⟩) hblt).trans (Hcell.out _ hq)
     have hf:=Zap hsi.cur t
     have e1:=hid (take_drop_succ l t i hq)
     generalize l[4 * t+i]=y at *
     generalize (l.drop (4 * t)).take i=u at *
     have Hsi:=hid hsi
     clear hsi hq
     have a1:=ZuV
     have a2:=Zyd
     have f1:IntKind.i64.wrap (4 * (t:Int))=4 * (t:Int):=IntWalk.i64_in _ (by omega)
     have f2:IntKind.i64.wrap (4 * (t:Int)+(i:Int))=4 * (t:Int)+(i:Int):=IntWalk.i64_in _ (by omega)
     have f3:(4 * (t:Int)+(i:Int)).toNat=4 * t+i:=by omega
     go_wp2
     go_region
     go_wp2
     go_roundw
     case rel=>
      refine⟨i+1,by omega,by go_num,?_⟩
      rw[e1.out,ZvO]
      have h:=(Hsi.out.drewN 1).set t (adb (m256 (w32 u)) y)
      rw[List.set_set]at h
      exact h
     case measure=>simp[intOf];omega
    ·obtain rfl:i=4:=by omega
     have Hsi:=hid hsi
     clear hsi
     go_wp2
     go_roundw
     case rel=>exact⟨t+1,by omega,by go_num,Hsi.out⟩
     case measure=>simp[intOf];omega
  ·have Ht:Hid (t=16):=by show t=16;omega
   have Hs2:Hid (SI w wo (sch1 l 16)):=by rw[← Ht.out];exact Hs.out
   clear Hs
   go_wp2
   go_loopw [6] (fun v wr=>∃i:Nat,i≤48∧v=.int .i64 ((i:Int)+16)∧SI w wr (sch2 l i)) (fun v _=>64-(intOf v).toNat)
   case atStart=>exact⟨0,Nat.zero_le _,rfl,Hs2.out⟩
   case round=>
    obtain⟨i,hi,rfl,hsi⟩:=hrel
    by_cases hli:i<48
    ·have h64:=Zd0 l i
     have hc (j:Nat) (hj:j<64):wr.cell? ⟨w.heap.size+1,j,none⟩=some (.int .u32 (((sch2 l i).getD j 0).toNat:Int)):=by
      rw[Zbl hsi.cur j (by omega)]
      congr 4
      rw[List.getD_eq_getElem?_getD,Vx9 (by omega)]
      rfl
     have c0:=hc i (by omega)
     have c1:=hc (i+1) (by omega)
     have c9:=hc (i+9) (by omega)
     have c14:=hc (i+14) (by omega)
     have c16:=hc (i+16) (by omega)
     have hf:=Zap hsi.cur (i+16)
     have E:=hid (show sch2 l (i+1)=(sch2 l i).set (i+16) (ad (ad (ad ((sch2 l i).getD i 0) (s0 ((sch2 l i).getD (i+1) 0))) ((sch2 l i).getD (i+9) 0)) (s1 ((sch2 l i).getD (i+14) 0))) from rfl)
     have Hsi:=hid hsi
     clear hsi hc h64
     generalize (sch2 l i).getD i 0=x0 at *
     generalize (sch2 l i).getD (i+1) 0=x1 at *
     generalize (sch2 l i).getD (i+9) 0=x9 at *
     generalize (sch2 l i).getD (i+14) 0=x14 at *
     generalize (sch2 l i).getD (i+16) 0=x16 at *
     have am:=Zfl
     have xb:=Zks
     have sd3:∀x:UInt32,(x.toNat:Int) / 8=((shr x 3).toNat:Int):=fun x=>by have:=Zp7 x 3;simpa using this
     have sd10:∀x:UInt32,(x.toNat:Int) / 1024=((shr x 10).toNat:Int):=fun x=>by have:=Zp7 x 10;simpa using this
     have f1:IntKind.i64.wrap ((i:Int)+16-15)=(i:Int)+16-15:=IntWalk.i64_in _ (by omega)
     have g1:((i:Int)+16-15).toNat=i+1:=by omega
     have f2:IntKind.i64.wrap ((i:Int)+16-2)=(i:Int)+16-2:=IntWalk.i64_in _ (by omega)
     have g2:((i:Int)+16-2).toNat=i+14:=by omega
     have f3:IntKind.i64.wrap (i:Int)=(i:Int):=IntWalk.i64_in _ (by omega)
     have b3:(i:Int)<64:=by omega
     have b4:(i:Int)+16-7<64:=by omega
     have b6:(0:Int)≤(i:Int)+16-7:=by omega
     have b7:(7:Int)≤(i:Int)+16:=by omega
     have b8:(i:Int)+16<71:=by omega
     have b11:(0:Int)≤(i:Int)+16:=by omega
     have b12:(i:Int)<48:=by omega
     have b9:decide ((0:Int)≤(i:Int)+16-7)=true:=by rw[decide_eq_true_iff];omega
     have b10:decide ((i:Int)+16-7<64)=true:=by rw[decide_eq_true_iff];omega
     have f4:IntKind.i64.wrap ((i:Int)+16-7)=(i:Int)+16-7:=IntWalk.i64_in _ (by omega)
     have g4:((i:Int)+16-7).toNat=i+9:=by omega
     have g5:((i:Int)+16).toNat=i+16:=by omega
     have b5:(i:Int)+16<64:=by omega
     go_wp2
     go_quiet (fail)
     go_wp2_with fail
     go_region_held3 (fun w'=>w'.cell? ⟨w.heap.size+1,i,none⟩=some (.int .u32 (x0.toNat:Int))∧w'.cell? ⟨w.heap.size+1,i+9,none⟩=some (.int .u32 (x9.toNat:Int))) (first|go_keep|(simp[*,World.cell?_setCell_other])) (first|(go_at_call 80;refine(YfA _ _ _ ?_ ?_).mono ?_;omega;omega;rintro e' w' ⟨rfl,rfl⟩))
     go_wp2
     go_roundw
     case rel=>
      refine⟨i+1,by omega,by go_num,?_⟩
      rw[E.out,Zfl,Zfl,Zfl]
      exact(Hsi.out.drewN _).set (i+16) _
     case measure=>simp[intOf];omega
    ·obtain rfl:i=48:=by omega
     have Hsi:=hid hsi
     have hcur:=hid hsi.cur
     have hres:=hid hsi.res
     clear hsi
     go_wp2_with (first
      |((with_reducible refine wpList_load_row rfl 115 (.tmp 3) rfl (w.heap.size+1) rfl 115 (wvs (sch2 l 48)) (0,0) _ ?_ Tryd.underlying115 rfl ?_ ?_);exact hcur.out;(rw[Zcv,Zd0];exact Zh8))
      |((with_reducible refine stW 2 73 w.heap.size 115 z64 ?_ ?_ ?_ ?_ ?_);exact hres.out;(rw[Zcv,Zd0];exact Zh8);(rw[Zcv,Zd0];exact Zkt);exact Zjt _;intro w1 hg1 hb1 hs1))
     refine Vy0 (v:=.agg (wvs (sched l))) ?_ rfl ⟨rfl,?_⟩
     ·exact results_cell_row Tryd.results77 _ _ w.heap.size 115 _ (0,0) _ rfl hg1 Tryd.underlying115 rfl (by rw[Zcv];show _=some (sch2 l 48).length;rw[Zd0];exact Zh8)
     ·exact Hsi.out.below.grown hb1 Hsi.out.below.size (by simp)
def z8:Array Value:=((List.replicate 8 (0:UInt8)).map bv).toArray
theorem YjV:(Tryd.prog.info? 121).map (fun i=>(i.zero,i.size))=some (some (.agg z8),z8.size):=by kernel_rfl
theorem Zw5(A:Option Addr)(c n:Nat)(l:List UInt8)(w:World)(hr:Rd w A l)(hn:n=l.length)(hl:l.length≤1000000):
  Calls Tryd.prog 75 #[.slice A n c] w fun r w'=>∃A' c',r=.returned (.slice A' (padded l).length c')∧Own 5 w' w.heap.size A' c' (padded l)∧Below w.heap.size w w':=by
 subst hn
 have P0:=hid (ZrT l)
 go_enter Tryd.func75,Tryd.ntmps75
 go_wp2_with (first
  |(at_builtin;refine ZaO u8s rfl (.tmp 7) (.tmp 8) rfl w.heap.size none A 0 l.length 0 c [] l rfl rfl rfl rfl (Own.nil _ _) hr (by simp;omega) (Vx8 _) ?_;intro A1 c1 w1 ho1 hb1;rw[List.nil_append]at ho1 ⊢)
  |(at_builtin;refine ZaO u8s rfl (.tmp 10) (.tmp 11) rfl w.heap.size A1 _ l.length 1 c1 1 l [128] rfl rfl rfl rfl (ho1.alloc _) (Rd.lit_ _ _ _ _ _ rfl rfl) (by simp;omega) (by have:=hb1.size;simp;omega) ?_;intro A2 c2 w2 ho2 hb2;rw[P0.out]at ho2 ⊢))
 have B2:Below w.heap.size w w2:=(hb1.alloc hb1.size _).trans hb2
 clear hb1 hb2 ho1
 go_loopw [3] (fun v wr=>∃(j:Nat) (A':Option Addr) (c':Nat),j≤padZ l.length∧v=.slice A' (padP l j).length c'∧Own 5 wr w.heap.size A' c' (padP l j)∧Below w.heap.size w wr) (fun v _=>l.length+65-(match v with| .slice _ n _=>n|_=>0))
 case atStart=>exact⟨0,A2,c2,Nat.zero_le _,rfl,ho2,B2⟩
 case round=>
  obtain⟨j,A',c',hj,rfl,ho,hb⟩:=hrel
  have hz:=ZtR l.length
  by_cases hlt:j<padZ l.length
  ·have ht:=ZrS l j hlt
   have P1:=hid (ZrR l j)
   have L0:=hid (Zew l j)
   have L1:=hid (Zew l (j+1))
   have hlen:(padP l j).length≤2000000:=by rw[Zew];omega
   go_wp2_with (at_builtin;refine ZaO u8s rfl (.tmp 17) (.tmp 18) rfl w.heap.size A' _ _ 1 c' 1 (padP l j) [0] rfl rfl rfl rfl (ho.alloc _) (Rd.lit_ _ _ _ _ _ rfl rfl) (by simp;omega) (by have:=hb.size;simp;omega) ?_;intro A3 c3 w3 ho3 hb3;rw[P1.out]at ho3 ⊢)
   go_roundw
   case rel=>exact⟨j+1,A3,c3,by omega,rfl,ho3,(hb.alloc hb.size _).trans hb3⟩
   case measure=>show l.length+65-(padP l (j+1)).length<l.length+65-(padP l j).length;rw[L1.out,L0.out];omega
  ·obtain rfl:j=padZ l.length:=by omega
   have ht:=ZrQ l
   have L0:=Zew l (padZ l.length)
   have hlen:(padP l (padZ l.length)).length≤2000000:=by rw[Zew];omega
   have hpad:=hid (show padded l=padP l (padZ l.length)++be 8 (8 * l.length) from rfl)
   generalize padP l (padZ l.length)=x at *
   clear L0 hlt hj
   go_wp2_with ((with_reducible refine Zac rfl 121 rfl z8 YjV ?_))
   obtain⟨N,hN⟩:∃N:Nat,N=8 * l.length:=⟨_,rfl⟩
   have hN2:N≤8000000:=by omega
   have hN3:(8:Int) * (l.length:Int)=(N:Int):=by omega
   rw[hN3]
   rw[← hN]at hpad
   replace hN:=hid hN
   clear hN3
   obtain⟨wo,rfl⟩:∃wo:World,wo=wr:=⟨_,rfl⟩
   go_loopw [4,6] (fun v i wr=>∃k:Nat,k≤8∧i=.int .i64 ((8:Int)-k-1)∧v=.int .u64 ((N / 256 ^ k:Nat):Int)∧Below wo.heap.size wo wr∧wr.heap[wo.heap.size]? =some (.cells ((dcells N 8 k).map bv).toArray 121 (0,0))) (fun _ i _=>(intOf i+1).toNat)
   case atStart=>exact⟨0,by omega,rfl,by simp,Zad _ _,by rw[Zje];exact Vx0 _ _⟩
   case round=>
    obtain⟨k,hk,rfl,rfl,hbk,hg⟩:=hrel
    by_cases hlt:k<8
    ·have hc:=Zcy hg (8-k-1) (by rw[ZkK _ _ _ hk];omega)
     have hf:=Zap hg (8-k-1)
     have hqn:N / 256 ^ k<18446744073709551616:=Nat.lt_of_le_of_lt (Nat.div_le_self _ _) (by omega)
     have e3:=hid (show N / 256 ^ (k+1)=N / 256 ^ k / 256 by rw[Nat.pow_succ,Nat.div_div_eq_div_mul])
     have e4:=hid (Zjd N 8 k hlt)
     have e5:=hid (show 8-k-1=8-1-k by omega)
     generalize N / 256 ^ k=q at *
     go_wp2
     go_roundw
     case rel=>
      refine⟨k+1,by omega,by go_num,?_,hbk.setCell (Vx8 _) _,?_⟩
      ·rw[e3.out]
       go_num
      ·rw[← e4.out,e5.out,show Value.int .u8 ((q:Int) % 256)=bv (UInt8.ofNat (q % 256)) from by unfold bv;congr 1;simp]
       exact Zdd hg _ _
     case measure=>simp[intOf];omega
    ·obtain rfl:k=8:=by omega
     rw[ZkJ]at hg
     have ho4:=ho.bel hbk
     have hr4:Rd wr (some ⟨wo.heap.size,0,none⟩) (be 8 N):=by
      intro _
      refine⟨_,0,rfl,fun j x hx=>?_⟩
      rw[Zaq hg,Nat.zero_add]
      simp[hx]
     have hl8:=Zav 8 N
     have hb4:Below w.heap.size w wr:=hb.trans (hbk.mono hb.size)
     replace hl8:=hid hl8
     clear hg ho hb hbk
     go_wp2_with (at_builtin;refine ZaO u8s rfl (.tmp 35) (.tmp 36) rfl w.heap.size A' _ x.length 8 c' _ x (be 8 N) rfl rfl rfl hl8.out.symm ho4 hr4 (by rw[hl8.out];omega) hb4.size ?_;intro A5 c5 w5 ho5 hb5;rw[← hpad.out]at ho5 ⊢)
     go_ret
     exact⟨_,_,rfl,ho5,hb4.trans hb5⟩
def z8w:Array Value:=wvs (List.replicate 8 0)
theorem Yfb:(Tryd.prog.info? 92).map (fun i=>(i.zero,i.size))=some (some (.agg z8w),z8w.size):=by kernel_rfl
theorem Zvx:(Tryd.prog.info? 92).map (·.size)=some 8:=by kernel_rfl
structure SumI (gS gK:Nat) (A:Option Addr) (p:List UInt8) (w wr:World) (s:S8):Prop where
 below:Below w.heap.size w wr
 res:wr.heap[w.heap.size]? =some (.cells z32 23 (0,0))
 cur:wr.heap[gS]? =some (.cells (wvs s.list) 92 (0,0))
 tab:wr.heap[gK]? =some (.cells (wvs Kw) 115 (0,0))
 rd:Rd wr A p
 apart:∀a,A=some a→gS<a.block
theorem SumI.ext{gS gK:Nat}{A:Option Addr}{p:List UInt8}{w wr w':World}{s:S8}(h:SumI gS gK A p w wr s)(hb:Below wr.heap.size wr w'):SumI gS gK A p w w' s:=
 ⟨Zag h.below hb,(hb.block _ (block_lt h.res)).trans h.res,(hb.block _ (block_lt h.cur)).trans h.cur,(hb.block _ (block_lt h.tab)).trans h.tab,h.rd.bel hb,h.apart⟩
theorem SumI.put{gS gK:Nat}{A:Option Addr}{p:List UInt8}{w wr w':World}{s s':S8}(h:SumI gS gK A p w wr s)(hg:wr.grownBy w' (some gS))(hS:w.heap.size<gS)(hK:gS<gK)
  (hcur:w'.heap[gS]? =some (.cells (wvs s'.list) 92 (0,0))):SumI gS gK A p w w' s':=
 ⟨h.below.grown hg h.below.size (fun k hk=>by injection hk with hk;omega),(hg.block _ (block_lt h.res) (fun e=>by injection e with e;omega)).trans h.res,hcur,(hg.block _ (block_lt h.tab) (fun e=>by injection e with e;omega)).trans h.tab,
  h.rd.grown hg (fun a ha e=>by injection e with e;have:=h.apart a ha;omega),h.apart⟩
set_option maxRecDepth 100000 in
theorem ZmG(A:Option Addr)(c n:Nat)(l:List UInt8)(w:World)(hr:Rd w A l)(hn:n=l.length)(hl:l.length≤100000):
  Calls Tryd.prog 71 #[.slice A n c] w fun r w'=>r=.returned (.agg ((sha256 l).map bv).toArray)∧Below w.heap.size w w':=by
 subst hn
 go_enter Tryd.func71,Tryd.ntmps71
 go_wp2_with (first
  |(with_reducible refine Zac rfl 23 rfl z32 Zam ?_)
  |(with_reducible refine Zac rfl 92 rfl z8w Yfb ?_)
  |((with_reducible refine stW 3 14 _ 92 z8w ?_ ?_ ?_ ?_ ?_);exact Vx0 _ _;exact Zvx;rfl;decide +kernel;intro w1 hg1 hb1 hs1))
 have e1:(w.alloc (.cells z32 23)).heap.size=w.heap.size+1:=by simp
 rw[e1]at hg1 hb1
 have B1:Below w.heap.size w w1:=((Zad w _).alloc (by simp) _).grown hb1 (by simp;omega) (fun k hk=>by injection hk with hk;omega)
 have R1:w1.heap[w.heap.size]? =some (.cells z32 23 (0,0)):=
  (hb1.block _ (by simp;omega) (by simp)).trans ((Below.heap_alloc _ _ _ (by simp)).trans (Vx0 w _))
 have C1:w1.heap[w.heap.size+1]? =some (.cells (wvs S0.list) 92 (0,0)):=hg1
 have s1:w.heap.size+1<w1.heap.size:=by rw[hs1];simp
 clear hg1 hb1 hs1 e1
 have r1:=hr.bel B1
 refine(Zw5 _ _ _ l _ r1 rfl (by omega)).mono ?_
 rintro e w2 ⟨Ap,cp,rfl,hop,hb2⟩
 have hcp:=hop.cap
 have hpl:=Yao l
 have hpm:=Zw6 l
 have hsha:Hid (sha256 l=(stN (padded l) ((padded l).length / 64)).bytes):=rfl
 generalize padded l=p at *
 unfold maxLen at hcp
 obtain⟨hcp1,hcp2⟩:=hcp
 go_wp2_with fail
 refine(YbR _).mono ?_
 rintro e w3 ⟨rfl,hb3⟩
 have B3:Below w1.heap.size w1 w3:=Zag hb2 hb3
 have hapart:∀a,Ap=some a→w.heap.size+1<a.block:=fun a ha=>by have:=(hop.blk a ha).1;omega
 have rp:=hop.rd.bel hb3
 have I0:Below w.heap.size w w3:=B1.trans (B3.mono (by omega))
 have R3:=(B3.block _ (by omega)).trans R1
 have C3:=(B3.block _ s1).trans C1
 have s3:=B3.size
 clear hop hb2 hb3 B3 B1 R1 C1 hr r1
 go_wp2_with (first
  |(with_reducible refine Zac rfl 115 rfl z64 ZoF ?_)
  |((with_reducible refine stW 5 17 _ 115 z64 ?_ ?_ ?_ ?_ ?_);exact Vx0 _ _;exact Zh8;rfl;exact Zjt _;intro w4 hg4 hb4 hs4))
 have B4:Below w3.heap.size w3 w4:=(Zad w3 _).grown hb4 (by simp) (fun k hk=>by injection hk with hk;omega)
 have I4:SumI (w.heap.size+1) w3.heap.size Ap p w w4 S0:=
  ⟨I0.trans (B4.mono (by omega)),(B4.block _ (by omega)).trans R3,(B4.block _ (by omega)).trans C3,hg4,rp.bel B4,hapart⟩
 clear hg4 hb4 hs4 B4 I0 R3 C3 rp
 go_loopw [6] (fun v wr=>∃i a:Nat,Hid (a=64 * i)∧a≤p.length∧v=.int .i64 a∧SumI (w.heap.size+1) w3.heap.size Ap p w wr (stN p i)) (fun v _=>p.length+64-(intOf v).toNat)
 case atStart=>exact⟨0,0,rfl,Nat.zero_le _,rfl,I4⟩
 case round=>
  obtain⟨i,a,ha,hap,rfl,hI⟩:=hrel
  by_cases hlt:a<p.length
  ·as_aux_lemma=>
   have h64:a+64≤p.length:=by have:=ha.out;omega
   have hne:¬cp=a:=by omega
   have rc:=hI.rd.cut a (a+64) cp (by omega) h64 (by omega)
   rw[if_neg hne,show a+64-a=64 by omega]at rc
   have hl64:((p.drop a).take 64).length=64:=by simp;omega
   have hst:Hid (stN p (i+1)=(stN p i).plus ((stN p i).rounds (sched ((p.drop a).take 64)) 64)):=by rw[ha.out];rfl
   generalize (p.drop a).take 64=blk at *
   have hsc:Hid ((sched blk).length=64):=Zd0 blk 48
   generalize stN p i=st at *
   obtain⟨ws,hws⟩:∃ws,ws=sched blk:=⟨_,rfl⟩
   rw[← hws]at hst hsc
   replace hws:=hid hws
   replace hl64:=hid hl64
   replace hI:=hid hI
   replace hpm:=hid hpm
   replace I4:=trivial
   go_wp2_with fail
   refine(Zsi _ _ _ blk _ rc hl64.out.symm hl64.out).mono ?_
   rintro e w5 ⟨rfl,hb5⟩
   rw[← hws.out]
   go_wp2_with (first
    |(with_reducible refine Zac rfl 115 rfl z64 ZoF ?_)
    |((with_reducible refine stW 7 29 _ 115 z64 ?_ ?_ ?_ ?_ ?_);exact Vx0 _ _;(rw[Zcv,hsc.out];exact Zh8);(rw[Zcv,hsc.out];exact Zkt);exact Zjt _;intro w6 hg6 hb6 hs6;have B6:Below w5.heap.size w5 w6:=(Zad w5 _).grown hb6 (by simp) (fun k hk=>by injection hk with hk;omega);have I6:=hid ((hI.out.ext hb5).ext B6);replace hg6:=hid hg6)
    |((with_reducible refine wpList_load_row rfl 92 (.tmp 3) rfl (w.heap.size+1) rfl 92 (wvs st.list) (0,0) _ ?_ Tryd.underlying92 rfl ?_ ?_);exact I6.out.cur;(rw[Zcv];exact Zvx))
    |(with_reducible refine Zac rfl 92 rfl z8w Yfb ?_)
    |((with_reducible refine stW 8 30 _ 92 z8w ?_ ?_ ?_ ?_ ?_);exact Vx0 _ _;(rw[Zcv];exact Zvx);(rw[Zcv];rfl);exact Zjt _;intro w7 hg7 hb7 hs7))
   have B7:Below w6.heap.size w6 w7:=(Zad w6 _).grown hb7 (by simp) (fun k hk=>by injection hk with hk;omega)
   have I7:=hid (I6.out.ext B7)
   have Q7:Below wr.heap.size wr w7:=Zag (Zag hb5 B6) B7
   have q7:wr.heap.size≤w5.heap.size:=hb5.size
   obtain⟨wo,rfl⟩:∃wo:World,wo=wr:=⟨_,rfl⟩
   have hgW:=(B7.block _ (block_lt hg6.out)).trans hg6.out
   have e6:w6.heap.size=w5.heap.size+1:=by rw[hs6];simp
   rw[e6]at hg7
   have hgK:w3.heap.size<w5.heap.size+1:=by have h1:=block_lt I6.out.tab;omega
   have hV:=hid hg7
   replace hgW:=hid hgW
   have hsz7:Hid (w5.heap.size+2≤w7.heap.size):=by show _≤_;have:=block_lt hg7;omega
   clear hg6 hs6 hg7 hs7 hb7 B7 I6 hb5 e6 rc B6
   generalize w5.heap.size=gW at *
   go_loopw [9] (fun v wr=>∃t:Nat,t≤64∧v=.int .i64 t∧Below (gW+1) w7 wr∧wr.heap[gW+1]? =some (.cells (wvs (st.rounds ws t).list) 92 (0,0))) (fun v _=>64-(intOf v).toNat)
   case atStart=>exact⟨0,Nat.zero_le _,rfl,Below.refl _ _,hV.out⟩
   case round=>
    obtain⟨t,ht,rfl,hbt,hvt⟩:=hrel
    by_cases hlt2:t<64
    ·as_aux_lemma=>
     have cK:wr.cell? ⟨w3.heap.size,t,none⟩=some (.int .u32 ((Kw.getD t 0).toNat:Int)):=by
      rw[← ZdJ Kw t (by rw[Zqr];omega)]
      exact Zbl ((hbt.block _ hgK).trans I7.out.tab) t (by rw[Zqr];omega)
     have cW:wr.cell? ⟨gW,t,none⟩=some (.int .u32 ((ws.getD t 0).toNat:Int)):=by
      rw[← ZdJ ws t (by rw[hsc.out];omega)]
      exact Zbl ((hbt.block _ (by omega)).trans hgW.out) t (by rw[hsc.out];omega)
     have E:=hid (show st.rounds ws (t+1)=(st.rounds ws t).round (Kw.getD t 0) (ws.getD t 0) from rfl)
     generalize Kw.getD t 0=xk at *
     generalize ws.getD t 0=xw at *
     generalize st.rounds ws t=v at *
     have c0:wr.cell? ⟨gW+1,0,none⟩=some (.int .u32 (v.a.toNat:Int)):=Zbl hvt 0 (by simp[S8.list])
     have c1:wr.cell? ⟨gW+1,1,none⟩=some (.int .u32 (v.b.toNat:Int)):=Zbl hvt 1 (by simp[S8.list])
     have c2:wr.cell? ⟨gW+1,2,none⟩=some (.int .u32 (v.c.toNat:Int)):=Zbl hvt 2 (by simp[S8.list])
     have c3:wr.cell? ⟨gW+1,3,none⟩=some (.int .u32 (v.d.toNat:Int)):=Zbl hvt 3 (by simp[S8.list])
     have c4:wr.cell? ⟨gW+1,4,none⟩=some (.int .u32 (v.e.toNat:Int)):=Zbl hvt 4 (by simp[S8.list])
     have c5:wr.cell? ⟨gW+1,5,none⟩=some (.int .u32 (v.f.toNat:Int)):=Zbl hvt 5 (by simp[S8.list])
     have c6:wr.cell? ⟨gW+1,6,none⟩=some (.int .u32 (v.g.toNat:Int)):=Zbl hvt 6 (by simp[S8.list])
     have c7:wr.cell? ⟨gW+1,7,none⟩=some (.int .u32 (v.h.toNat:Int)):=Zbl hvt 7 (by simp[S8.list])
     replace hvt:=hid hvt
     replace hbt:=hid hbt
     go_wp2
     go_still_tail 7,(by kernel_rfl)
     go_wp2_with (first
      |(go_at_call 78;refine(Ya1 v xk xw _).mono ?_;rintro e w8 ⟨rfl,hb8⟩;replace hb8:Below wr.heap.size wr w8:=⟨hb8.os,hb8.tape,hb8.output,hb8.size,hb8.block⟩;rw[S8.vals_list])
      |((with_reducible refine stW 8 42 (gW+1) 92 (wvs v.list) ?_ ?_ ?_ ?_ ?_);exact(hb8.block _ (block_lt hvt.out)).trans hvt.out;(rw[Zcv];exact Zvx);(rw[Zcv];rfl);exact Zjt _;intro w9 hg9 hb9 hs9))
     go_roundw
     case rel=>
      refine⟨t+1,by omega,by go_num,?_,?_⟩
      ·exact((hbt.out.trans (hb8.mono (by have:=block_lt hvt.out;omega))).grown hb9 (by have:=block_lt hvt.out;have:=hb8.size;omega) (fun k hk=>by injection hk with hk;omega))
      ·rw[E.out];exact hg9
     case measure=>simp[intOf];omega
    ·as_aux_lemma=>
     have Ht:Hid (t=64):=by show t=64;omega
     rw[Ht.out]at hvt
     have gt1:64≤t:=by omega
     have Iw:SumI (w.heap.size+1) w3.heap.size Ap p w wr st:=hI.out.ext (Q7.trans (hbt.mono (by omega)))
     generalize st.rounds ws 64=v at *
     have hltV:=block_lt hvt
     have hgS:w.heap.size+1<w3.heap.size:=by omega
     have HIw:=hid Iw
     replace hvt:=hid hvt
     clear Iw hbt hgW hV I7 Q7
     go_wp2
     obtain⟨wp,rfl⟩:∃wp:World,wp=wr:=⟨_,rfl⟩
     go_loopw [10] (fun q wr=>∃j:Nat,j≤8∧q=.int .i64 j∧wp.grownBy wr (some (w.heap.size+1))∧wr.heap[w.heap.size+1]? =some (.cells (wvs (plusTo st.list v.list j)) 92 (0,0))) (fun q _=>8-(intOf q).toNat)
     case atStart=>exact⟨0,Nat.zero_le _,rfl,World.grownBy.refl _ _,by rw[Znu];exact HIw.out.cur⟩
     case round=>
      obtain⟨j,hj,rfl,hgr,hcur⟩:=hrel
      have hl8:st.list.length=8:=rfl
      have hl8v:v.list.length=8:=rfl
      by_cases hlt3:j<8
      ·as_aux_lemma=>
       have cS:wr.cell? ⟨w.heap.size+1,j,none⟩=some (.int .u32 ((st.list.getD j 0).toNat:Int)):=by
        rw[Zaq hcur]
        have:=ZoU st.list v.list j rfl (by omega)
        simp[wvs,this,uv]
       have cV:wr.cell? ⟨gW+1,j,none⟩=some (.int .u32 ((v.list.getD j 0).toNat:Int)):=by
        rw[← ZdJ v.list j (by omega)]
        exact Zbl ((hgr.block _ hltV (fun e=>by injection e with e;omega)).trans hvt.out) j (by omega)
       have hf:=Zap hcur j
       have E:=hid (Znt st.list v.list j rfl (by omega))
       generalize st.list.getD j 0=xs at *
       generalize v.list.getD j 0=xv at *
       have am:=Zfl
       replace hcur:=hid hcur
       replace hgr:=hid hgr
       clear hl8 hl8v
       have j1:(j:Int)<8:=by omega
       go_wp2
       go_still_tail 8,(by kernel_rfl)
       go_wp2
       go_roundw
       case rel=>
        refine⟨j+1,by omega,by go_num,?_,?_⟩
        ·have h:=Zzx hgr.out j (.int .u32 ((ad xs xv).toNat:Int))
         exact⟨h.os,h.tape,h.output,h.size,h.block⟩
        ·rw[← E.out]
         exact Zo1 hcur.out _ _
       case measure=>simp[intOf];omega
      ·as_aux_lemma=>
       have Hj:Hid (j=8):=by show j=8;omega
       rw[Hj.out]at hcur
       have j1:8≤j:=by omega
       have In:SumI (w.heap.size+1) w3.heap.size Ap p w wr (st.plus v):=HIw.out.put hgr (by omega) hgS (by rw[S8.plus_list];exact hcur)
       rw[← hst.out]at In
       replace In:=hid In
       clear hcur hgr HIw
       go_wp2
       go_roundw
       case rel=>
        refine⟨i+1,a+64,?_,by omega,by go_num,In.out⟩
        show a+64=64 * (i+1)
        have:=ha.out
        omega
       case measure=>simp[intOf];omega
  ·as_aux_lemma=>
   have ha2:Hid (i=p.length / 64):=by show i=_;have:=ha.out;omega
   rw[ha2.out]at hI
   have hI2:=hid hI
   have hap2:p.length≤a:=by omega
   generalize stN p (p.length / 64)=st at *
   clear hI
   go_wp2_with ((with_reducible refine Zac rfl 23 rfl z32 Zam ?_))
   obtain⟨wo,rfl⟩:∃wo:World,wo=wr:=⟨_,rfl⟩
   have hltS:=block_lt hI2.out.cur
   have hbl:=st.bytes_len
   replace hbl:=hid hbl
   go_loopw [12] (fun q wr=>∃x:Nat,x≤8∧q=.int .i64 x∧Below wo.heap.size wo wr∧wr.heap[wo.heap.size]? =some (.cells ((upTo st.bytes (4 * x)).map bv).toArray 23 (0,0))) (fun q _=>8-(intOf q).toNat)
   case atStart=>exact⟨0,Nat.zero_le _,rfl,Zad _ _,by rw[Nat.mul_zero,ZnN];exact Vx0 _ _⟩
   case round=>
    obtain⟨x,hx,rfl,hb,hd⟩:=hrel
    by_cases hx8:x<8
    ·as_aux_lemma=>
     replace hb:=hid hb
     replace hd:=hid hd
     obtain⟨wq,rfl⟩:∃wq:World,wq=wr:=⟨_,rfl⟩
     go_wp2
     go_loopw [13] (fun q wr=>∃j:Nat,j≤4∧q=.int .i64 j∧Below wo.heap.size wo wr∧wr.heap[wo.heap.size]? =some (.cells ((upTo st.bytes (4 * x+j)).map bv).toArray 23 (0,0))) (fun q _=>4-(intOf q).toNat)
     case atStart=>exact⟨0,Nat.zero_le _,rfl,hb.out,hd.out⟩
     case round=>
      obtain⟨j,hj,rfl,hb2,hd2⟩:=hrel
      by_cases hj4:j<4
      ·as_aux_lemma=>
       have cS:wr.cell? ⟨w.heap.size+1,x,none⟩=some (.int .u32 ((st.list.getD x 0).toNat:Int)):=by
        rw[← ZdJ st.list x (by show x<8;omega)]
        exact Zbl ((hb2.block _ hltS).trans hI2.out.cur) x (by show x<8;omega)
       have cD:=Zcy hd2 (4 * x+j) (by rw[Zmh _ _ hbl.out (by omega)];omega)
       have fD:=Zap hd2 (4 * x+j)
       have E:=hid (Zkp st.bytes (4 * x+j) hbl.out (by omega) _ (Yiu st.list x j hj4 (by show x<8;omega)))
       have F:=hid (Ybe (st.list.getD x 0) j hj4)
       generalize st.list.getD x 0=y at *
       replace hd2:=hid hd2
       replace hb2:=hid hb2
       go_wp2
       go_roundw
       case rel=>
        refine⟨j+1,by omega,by go_num,hb2.out.setCell (Vx8 _) _,?_⟩
        rw[F.out,show 4 * x+(j+1)=4 * x+j+1 by omega,←E.out]
        exact Zdd hd2.out _ _
       case measure=>simp[intOf];omega
      ·as_aux_lemma=>
       have Hj:Hid (4 * x+j=4 * (x+1)):=by show _=_;omega
       rw[Hj.out]at hd2
       have hj5:4≤j:=by omega
       replace hd2:=hid hd2
       replace hb2:=hid hb2
       go_wp2
       go_roundw
       case rel=>exact⟨x+1,by omega,by go_num,hb2.out,hd2.out⟩
       case measure=>simp[intOf];omega
    ·as_aux_lemma=>
     have Hx:Hid (4 * x=32):=by show _=_;omega
     rw[Hx.out,Zmg _ hbl.out,←hsha.out]at hd
     have hx9:8≤x:=by omega
     have hres:=hid ((hb.block _ (block_lt hI2.out.res)).trans hI2.out.res)
     have hlen:Hid ((sha256 l).length=32):=by show _=_;rw[hsha.out];exact hbl.out
     have hsz:Hid (((sha256 l).map bv).toArray.size=32):=by show _=_;rw[Vx7,Vx6,hlen.out]
     have hbel:=Zag hI2.out.below hb
     replace hd:=hid hd
     replace hbel:=hid hbel
     clear hb
     go_wp2_with (first
      |((with_reducible refine wpList_load_row rfl 23 (.tmp 11) rfl wo.heap.size rfl 23 ((sha256 l).map bv).toArray (0,0) _ ?_ Tryd.underlying23 rfl ?_ ?_);exact hd.out;(rw[Vx7,Vx6,hlen.out];exact Zai))
      |((with_reducible refine stW 2 77 w.heap.size 23 z32 ?_ ?_ ?_ ?_ ?_);exact hres.out;(rw[Vx7,Vx6,hlen.out];exact Zai);exact z32_size.trans hsz.out.symm;exact Zay _;intro w9 hg9 hb9 hs9))
     refine Vy0 (v:=.agg ((sha256 l).map bv).toArray) ?_ rfl ⟨rfl,?_⟩
     ·exact results_cell_row Tryd.results71 _ _ w.heap.size 23 _ (0,0) _ rfl hg9 Tryd.underlying23 rfl (by rw[Vx7,Vx6,hlen.out];exact Zai)
     ·exact hbel.out.grown hb9 hbel.out.size (fun k hk=>by injection hk with hk;omega)
end Go.Proofs.YtimaoonpgilekaaDoor
