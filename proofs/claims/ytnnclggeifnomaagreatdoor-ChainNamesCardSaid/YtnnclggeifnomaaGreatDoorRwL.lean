import Derived.Lib.BitFns
import Derived.Lib.Strings
import Derived.Test.YtnnclggeifnomaaGreatDoorProg
import Derived.Test.YtnnclggeifnomaaGreatDoorTxM
import Derived.Test.YtnnclggeifnomaaGreatDoorRf13
set_option maxRecDepth 100000
set_option linter.all false
set_option maxHeartbeats 4000000
namespace Go.Proofs.YtnnclggeifnomaaGreatDoor
open Go.RowKit Go.Shelf
structure Fk where
 f:Nat
 t:Nat
 l:Bool
theorem Ydk:∀n:Fin 256,0<n.val→Lib.bitLen n.val=Nat.log2 n.val+1:=by decide +kernel
theorem YgO{x:Nat}(h:0<x)(h2:x<256):Lib.bitLen x=Nat.log2 x+1:=Ydk ⟨x,h2⟩ h
theorem YhF:Lib.len8tab.size=256:=by decide +kernel
theorem Yjj:∀n:Fin 256,(Lib.len8tab[n.val]'(by rw[YhF];exact n.2)).toNat=Lib.bitLen n.val:=by decide +kernel
theorem YiW:∀k:Fin 8,wrap64 ((2:Int) ^ k.val)=((2 ^ k.val:Nat):Int):=by decide +kernel
theorem Zwi(x:Int)(w:World)(h0:0≤x)(h1:x<256):
  Calls Tryz.prog 274 #[.int .u64 x] w fun e w'=>e=.returned (.int .i64 (Lib.bitLen x.toNat))∧w'=w:=by
 have q1:¬(4294967296:Int)≤x:=by omega
 have q2:¬(65536:Int)≤x:=by omega
 have q3:¬(256:Int)≤x:=by omega
 go_enter Tryz.func274,Tryz.ntmps274
 go_wp2
 go_ret
 refine⟨congrArg Ending.returned (congrArg (Value.int IntKind.i64) ?_),rfl⟩
 have h:=Yjj ⟨x.toNat,by omega⟩
 have l:=Lib.bitLen_le8 ⟨x.toNat,by omega⟩
 simp only at h l
 rw[h]
 unfold wrap64
 omega
theorem Ycp(x:Int)(w:World)(h0:0≤x)(h1:x<256):
  Calls Tryz.prog 268 #[.int .u64 x] w fun e w'=>e=.returned (.int .i64 (Lib.bitLen x.toNat))∧w'=w:=by
 have hL:=hid (fun W=>Zwi x W h0 h1)
 go_enter Tryz.func268,Tryz.ntmps268
 go_wp2_with fail
 refine(hL.out _).mono ?_
 rintro e w1 ⟨rfl,rfl⟩
 go_wp2
 go_ret
 exact⟨rfl,rfl⟩
theorem Zmr(n:Nat)(w:World)(h2:2≤n)(hn:n≤256):
  Calls Tryz.prog 258 #[.int .i64 (n:Int)] w fun e w'=>e=.returned (.int .i64 (firstN n:Int))∧w'=w:=by
 have hL:=fun W=>Ycp (((n-1:Nat):Int)) W (by omega) (by omega)
 rw[Int.toNat_natCast,YgO (by omega) (by omega)]at hL
 replace hL:=hid hL
 have e1:IntKind.i64.wrap ((n:Int)-1)=((n-1:Nat):Int):=by rw[IntWalk.i64_in _ (by omega)];omega
 have e2:IntKind.u64.wrap ((n-1:Nat):Int)=((n-1:Nat):Int):=by rw[IntKind.wrap_u64];omega
 have hf:((2 ^ Nat.log2 (n-1):Nat):Int)=(firstN n:Int):=rfl
 have hl:Nat.log2 (n-1)<8:=(Nat.log2_lt (by omega)).2 (by omega)
 obtain⟨k,hk⟩:∃k,Nat.log2 (n-1)=k:=⟨_,rfl⟩
 rw[hk]at hL hf hl
 replace hf:=hid hf
 clear hk
 go_enter Tryz.func258,Tryz.ntmps258
 go_wp2_with fail
 refine(hL.out _).mono ?_
 rintro e w1 ⟨rfl,rfl⟩
 go_wp2
 go_ret
 refine⟨?_,rfl⟩
 rw[← hf.out]
 exact congrArg (fun z=>Ending.returned (.int .i64 z)) (YiW ⟨k,hl⟩)
theorem Zn7(A:Option Addr)(n c:Nat)(w:World):
  Calls Tryz.prog 232 #[.slice A n c] w fun e w'=>e=.returned (.bool (decide (n≤4096)))∧w'=w:=by
 have hq:decide ((n:Int)≤4096)=decide (n≤4096):=decide_eq_decide.2 (by omega)
 obtain⟨b,hb⟩:∃b,decide (n≤4096)=b:=⟨_,rfl⟩
 rw[hb]at hq ⊢
 clear hb
 go_enter Tryz.func232,Tryz.ntmps232
 go_wp2
 go_ret
 exact⟨rfl,rfl⟩
theorem ZwS{ls:List (List UInt8)}{j:Nat}(h:j<ls.length):((ls.take (j+1)).all fun x=>decide (x.length≤4096))=(((ls.take j).all fun x=>decide (x.length≤4096))&&decide (ls[j].length≤4096)):=by
 rw[Vy5 h,List.all_append]
 simp
theorem Ydn{ls:List (List UInt8)}{j:Nat}(h:j<ls.length)(hj:¬ls[j].length≤4096):listR ls=false:=by
 unfold listR
 rw[Bool.and_eq_false_iff]
 right
 rw[List.all_eq_false]
 exact⟨ls[j],List.getElem_mem h,by simpa using hj⟩
theorem Zms(A:Option Addr)(c:Nat)(ls:List (List UInt8))(w:World)(hr:Rds w A ls)(hl:ls.length≤1000000):
  Calls Tryz.prog 190 #[.slice A ls.length c] w fun e w'=>e=.returned (.bool (listR ls))∧w'=w:=by
 obtain⟨ans,hans⟩:∃b,listR ls=b:=⟨_,rfl⟩
 rw[hans]
 by_cases h256:256<ls.length
 ·have h0:ans=false:=by rw[← hans];unfold listR;rw[Vy1 (by omega)];rfl
  have q1:decide (256<(ls.length:Int))=true:=Vy2 (by omega)
  subst h0
  clear hans
  go_enter Tryz.func190,Tryz.ntmps190
  go_wp2
  go_ret
  exact⟨rfl,rfl⟩
 have q1:decide (256<(ls.length:Int))=false:=Vy1 (by omega)
 replace hans:=hid hans
 go_enter Tryz.func190,Tryz.ntmps190
 go_wp2
 go_loop [4,10] (fun _ i=>∃j:Nat,i=.int .i64 (j:Int)∧j≤ls.length∧((ls.take j).all fun x=>decide (x.length≤4096))=true) (fun _ i=>ls.length-(intOf i).toNat)
 case atStart=>exact⟨0,rfl,Nat.zero_le _,rfl⟩
 case round=>
  obtain⟨j,rfl,hj,ha⟩:=hrel
  by_cases hlt:j<ls.length
  ·have hlt2:(j:Int)<(ls.length:Int):=by omega
   obtain⟨b,o,rfl,hc⟩:=hr (by omega)
   obtain⟨A',c',e,-⟩:=hc j _ (Vx9 hlt)
   have hn:=ZwS hlt
   have hno:=fun q=>Ydn hlt q
   rw[ha,Bool.true_and]at hn
   replace hn:=hid hn
   replace hno:=hid hno
   replace ha:=hid ha
   have hR:=hid (fun W=>Zn7 A' ls[j].length c' W)
   clear hc
   generalize ls[j]=x at *
   by_cases h4:x.length≤4096
   ·have q2:decide (x.length≤4096)=true:=Vy2 h4
    rw[q2]at hR hn
    go_wp2_with fail
    refine(hR.out _).mono ?_
    rintro e1 w1 ⟨rfl,rfl⟩
    go_wp2
    go_round
    case rel=>exact⟨j+1,by go_num,by omega,by rw[hn.out]⟩
    case measure=>simp[intOf];omega
   ·have q2:decide (x.length≤4096)=false:=Vy1 h4
    have h0:ans=false:=by rw[← hans.out];exact hno.out h4
    rw[q2]at hR
    subst h0
    go_wp2_with fail
    refine(hR.out _).mono ?_
    rintro e1 w1 ⟨rfl,rfl⟩
    go_wp2
    go_ret
    exact⟨rfl,rfl⟩
  ·obtain rfl:j=ls.length:=by omega
   rw[List.take_length]at ha
   have h0:ans=true:=by rw[← hans.out];unfold listR;rw[Vy2 (by omega),ha];rfl
   subst h0
   replace ha:=hid ha
   go_wp2
   go_ret
   exact⟨rfl,rfl⟩
theorem Zo5(A:Option Addr)(n c:Nat)(w:World):
  Calls Tryz.prog 233 #[.slice A n c] w fun r w'=>r=.returned (.func (.func 257) #[] #[.pointer (some ⟨w.heap.size,0,none⟩)])∧w'=w.alloc (.cells #[.slice A n c] 191):=by
 go_enter Tryz.func233,Tryz.ntmps233
 go_wp2
 go_ret
 exact⟨rfl,rfl⟩
section
open Go.RowKit Go.Shelf
attribute [local go_sem] Oper.semAt_some
structure HItem where
 A:Option Addr
 c:Nat
 ls:List (List UInt8)
def HItem.encs(x:HItem):Array Value:=#[.slice x.A x.ls.length x.c]
def HGood(w:World)(x:HItem):Prop:=Rds w x.A x.ls∧x.ls.length≤x.c∧x.c≤maxLen
abbrev HItems (w:World) (ls:List (List UInt8)):Type:={ x:HItem // HGood w x∧x.ls.length<ls.length∧∀y∈x.ls,y∈ls }
theorem ZwK(m l:Nat)(n₀ p:Nat)(Z:Nat→Prop)(hZ:¬Z p)(A:Option Addr)(c:Nat)(ls:List (List UInt8))(w0 W:World)(hr:Rds w0 A ls)(h2:2≤ls.length)(h256:ls.length≤256)(hc:ls.length≤c)(hm:c≤maxLen)
  (hp:W.heap[p]? =some (.cells #[.slice A ls.length c] 191 (0,0)))
  (J Jx:List (HItems w0 ls)→World→Prop)
  (hY:∀m pre x W,J pre W→pre.length<2→YieldAt Fence.wide m Tryz.prog l (HItem.encs x.1) W fun e W'=>(e=.returned (.bool true)∧J (pre++[x]) W'∧KeepA n₀ Z W W')∨(e=.returned (.bool false)∧Jx (pre++[x]) W'))
  (hj:J [] W):
  CallsIn Fence.wide m Tryz.prog 257 #[.func (.yield l) #[] #[],.pointer (some ⟨p,0,none⟩)] W fun e W'=>(∃ v,e=.returned v)∧
   ((∃ xs,xs.map (fun x=>x.1.ls)=[ls.take (firstN ls.length),ls.drop (firstN ls.length)]∧J xs W')∨(∃ pre,True∧Jx pre W')):=by
 have f1:=Zba ls.length
 have f2:=Zbm h2
 have ht:(ls.take (firstN ls.length)).length=firstN ls.length:=by rw[List.length_take];omega
 have hd:(ls.drop (firstN ls.length)).length=ls.length-firstN ls.length:=List.length_drop
 have g1:HGood w0 ⟨A,c,ls.take (firstN ls.length)⟩∧(ls.take (firstN ls.length)).length<ls.length∧∀y∈ls.take (firstN ls.length),y∈ls:=⟨⟨hr.take _,by show (ls.take _).length≤c;omega,hm⟩,by omega,fun y h=>List.take_subset _ _ h⟩
 have hcut:=hr.cutA (firstN ls.length) c (by omega) hc
 obtain⟨b,o,rfl,-⟩:=hr (by omega)
 have ea:cutA (some ⟨b,o,none⟩) c (firstN ls.length) 1=some ⟨b,o+firstN ls.length,none⟩:=by unfold cutA;rw[if_neg (by omega)];rw[Option.map_some,Addr.add_lit,Nat.mul_one]
 rw[ea]at hcut
 have g2:HGood w0 ⟨some ⟨b,o+firstN ls.length,none⟩,c-firstN ls.length,ls.drop (firstN ls.length)⟩∧(ls.drop (firstN ls.length)).length<ls.length∧∀y∈ls.drop (firstN ls.length),y∈ls:=⟨⟨hcut,by show (ls.drop _).length≤c-_;omega,by show c-_≤maxLen;omega⟩,by omega,fun y h=>List.drop_subset _ _ h⟩
 have hF:=hid (fun W=>Zmr ls.length W h2 h256)
 have y1:=fun m=>hY m [] ⟨_,g1⟩ W hj (by simp)
 have y2:=fun m W' (h:J [⟨_,g1⟩] W')=>hY m [⟨_,g1⟩] ⟨_,g2⟩ W' h (by simp)
 have hres:∀W',J [⟨_,g1⟩,⟨_,g2⟩] W'→∃xs:List (HItems w0 ls),xs.map (fun x=>x.1.ls)=[ls.take (firstN ls.length),ls.drop (firstN ls.length)]∧J xs W':=fun W' h=>⟨_,rfl,h⟩
 replace hres:=hid hres
 have y1':Hid (∀ m,YieldAt Fence.wide m Tryz.prog l #[.slice (some ⟨b,o,none⟩) (firstN ls.length) c] W fun e W'=>(e=.returned (.bool true)∧J [⟨_,g1⟩] W'∧KeepA n₀ Z W W')∨(e=.returned (.bool false)∧Jx [⟨_,g1⟩] W')):=hid (fun m=>by have:=y1 m;rw[show HItem.encs ⟨some ⟨b,o,none⟩,c,ls.take (firstN ls.length)⟩=#[.slice (some ⟨b,o,none⟩) (firstN ls.length) c] from by unfold HItem.encs;rw[ht]]at this;exact this)
 have y2':Hid (∀ m W',J [⟨_,g1⟩] W'→YieldAt Fence.wide m Tryz.prog l #[.slice (some ⟨b,o+firstN ls.length,none⟩) (ls.length-firstN ls.length) (c-firstN ls.length)] W' fun e W2=>(e=.returned (.bool true)∧J [⟨_,g1⟩,⟨_,g2⟩] W2∧KeepA n₀ Z W' W2)∨(e=.returned (.bool false)∧Jx [⟨_,g1⟩,⟨_,g2⟩] W2)):=hid (fun m W' h=>by have:=y2 m W' h;rw[show HItem.encs ⟨some ⟨b,o+firstN ls.length,none⟩,c-firstN ls.length,ls.drop (firstN ls.length)⟩=#[.slice (some ⟨b,o+firstN ls.length,none⟩) (ls.length-firstN ls.length) (c-firstN ls.length)] from by unfold HItem.encs;rw[hd]]at this;exact this)
 clear y1 y2 hY ht hd ea
 generalize (⟨_,g1⟩:HItems w0 ls)=x1 at *
 generalize (⟨_,g2⟩:HItems w0 ls)=x2 at *
 clear g1 g2 hcut
 have cp:=Zaq hp 0
 replace cp:W.cell? ⟨p,0,none⟩=some (.slice (some ⟨b,o,none⟩) ls.length c):=cp
 have hc1:c≠firstN ls.length:=by omega
 generalize firstN ls.length=fn at *
 refine callsIn_of_wp Tryz.func257 rfl trivial ?_ rfl
 simp only[Tryz.ntmps257,Vx7,List.length_cons,List.length_nil,Nat.reduceAdd,Nat.reduceSub,Array.replicate_succ,Array.replicate_zero,List.push_toArray,List.append_toArray,List.nil_append,List.cons_append]
 gi_wp2_with fail
 refine⟨trivial,fun h=>(by cases h),callsIn_wide.2 ((hF.out _).mono ?_)⟩
 rintro e w1 ⟨rfl,rfl⟩
 obtain⟨fn1,tmps1,assign1,body1,hy1,hR1⟩:=y1'.out (m-1)
 gi_wp2
 refine⟨fun h=>(by cases h),hR1.mono ?_⟩
 rintro e W3 (⟨rfl,hJ3,hk3⟩|⟨rfl,hJx3⟩)
 ·have cq:=(World.cell?_of_block (a:=⟨p,0,none⟩) (hk3.2 p _ _ _ hp hZ)).trans cp
  obtain⟨fn2,tmps2,assign2,body2,hy2,hR2⟩:=y2'.out (m-1) _ hJ3
  gi_wp2
  refine⟨fun h=>(by cases h),hR2.mono ?_⟩
  rintro e W4 (⟨rfl,hJ4,hk4⟩|⟨rfl,hJx4⟩)
  ·gi_wp2
   go_end0
   exact⟨⟨_,rfl⟩,.inl (hres.out _ hJ4)⟩
  ·gi_wp2
   go_end0
   exact⟨⟨_,rfl⟩,.inr ⟨_,trivial,hJx4⟩⟩
 ·gi_wp2
  go_end0
  exact⟨⟨_,rfl⟩,.inr ⟨_,trivial,hJx3⟩⟩
end
section
open Go.RowKit Go.Shelf
attribute [local go_sem] Oper.semAt_some
theorem ZaB(k:Dg):(Tryz.prog.info? 37).map (·.size)=some (k.1.map bv).toArray.size:=by rw[Vx7,Vx6,k.2];exact Zai
theorem ZdO(k:Dg):z32.size=(k.1.map bv).toArray.size:=by rw[z32_size];simp[k.2]
theorem ZaV(k:Dg):(k.1.map bv).toArray.all (·.oneCell')=true:=all_oneCell_toArray fun u hu=>by
 obtain⟨x,-,rfl⟩:=List.mem_map.1 hu
 rfl
def LoopR(w:World)(ls:List (List UInt8))(o B0:Nat)(pre:List (HItems w ls))(W:World):Prop:=
 (∃ A' c',Boxed W o 191 (.slice A' (pre.map fun x=>(rootR x.1.ls).1).length c')∧OwnR 41 W B0 A' c' (pre.map fun x=>(rootR x.1.ls).1))∧Below w.heap.size w W∧B0≤W.heap.size
theorem ZwZ(w:World)(ls:List (List UInt8))(o B0:Nat)(hB:w.heap.size≤B0):OwnFrom B0 (LoopR w ls o B0):=by
 rintro pre X Y row ⟨⟨A',c',h2,h3⟩,h6,h7⟩ hg hr
 have hr2:=fun r e=>(hr r e).2
 exact⟨⟨A',c',h2.kept hg (Zax h2 hr2),Zk2 h3 hg hr2⟩,h6.grown hg (h6.size) (fun k e=>Vx1 hB (hr k e).1),Vx1 h7 hg.size⟩
def ZR(o B0:Nat)(b:Nat):Prop:=b=o∨B0≤b
def RootAt(ls:List (List UInt8)):Prop:=∀(A:Option Addr) (c:Nat) (w:World),Rds w A ls→ls.length≤c→c≤maxLen→ls.length≤256→(∀ x∈ls,x.length≤4096)→Tab w→
  Calls Tryz.prog 191 #[.slice A ls.length c] w fun e w'=>e=.returned (.agg ((rootR ls).1.map bv).toArray)∧Below w.heap.size w w'
theorem Zr9:RootAt []:=by
 intro A c w hr hc hm hl hx hT
 have hu:=Tryz.underlying37
 have h0:=hid (Vx0 w (.cells z32 37))
 have W0:=hid (Zad w (.cells z32 37))
 have hN:=ZdS (w.alloc (.cells z32 37)) (hT.bel W0.out hT.low)
 obtain⟨rd,hrd⟩:∃d,rootR []=d:=⟨_,rfl⟩
 rw[hrd]
 have e1:sha256 [0]=rd.1:=by rw[← hrd];rfl
 rw[e1]at hN
 replace hN:=hid hN
 have js:=hid (ZaB rd)
 have zs:=hid (ZdO rd)
 have os:=hid (ZaV rd)
 clear hrd e1 hT
 generalize (rd.1.map bv)=dk at *
 go_enter Tryz.func191,Tryz.ntmps191
 go_wp2_with ((with_reducible refine Zac rfl 37 rfl z32 Zam ?_))
 refine hN.out.mono ?_
 rintro e w1 ⟨rfl,hb⟩
 have R1:=hid ((hb.block _ (block_lt h0.out)).trans h0.out)
 have W1:=hid (W0.out.trans (hb.mono W0.out.size))
 clear hb
 go_wp2_with (((with_reducible refine stW 2 10 w.heap.size 37 z32 ?_ ?_ ?_ ?_ ?_);exact R1.out;exact js.out;exact zs.out;exact os.out;intro w4 hg4 hb4 hs4))
 exact Vy0 (v:=.agg dk.toArray) (results_cell_row Tryz.results191 _ _ w.heap.size 37 _ (0,0) _ rfl hg4 hu rfl js.out) rfl ⟨rfl,W1.out.grown hb4 W1.out.size (fun g e=>by injection e with e;omega)⟩
theorem YaY(x:List UInt8):RootAt [x]:=by
 intro A c w hr hc hm hl hx hT
 have hu:=Tryz.underlying37
 have h0:=hid (Vx0 w (.cells z32 37))
 have W0:=hid (Zad w (.cells z32 37))
 have hr0:=hr.bel W0.out
 obtain⟨rd,hrd⟩:∃d,rootR [x]=d:=⟨_,rfl⟩
 rw[hrd]
 obtain⟨b,o,rfl,hcc⟩:=hr0 (by simp)
 obtain⟨A',c',e,hra,hl1,hl2⟩:=hcc 0 x rfl
 rw[Nat.add_zero]at e
 have hN:=ZgS 7 A' c' x (w.alloc (.cells z32 37)) hra ⟨hl1,hl2⟩ (Vx1 (hx x (List.mem_singleton.2 rfl)) (by decide)) (hT.bel W0.out hT.low)
 have e1:sha256 (tagB 7 [x])=rd.1:=by rw[← hrd];rfl
 rw[e1,show (((7:UInt8).toNat:Nat):Int)=7 from rfl,Vx2]at hN
 have hlt:=hid (show w.heap.size<w.heap.size+1 from Nat.lt_succ_self _)
 replace hN:=hid hN
 have js:=hid (ZaB rd)
 have zs:=hid (ZdO rd)
 have os:=hid (ZaV rd)
 have q0:(([x].length:Int)==0)=false:=rfl
 clear hrd hr hr0 hcc e1 hx hra hT
 generalize (rd.1.map bv)=dk at *
 go_enter Tryz.func191,Tryz.ntmps191
 go_wp2_with ((with_reducible refine Zac rfl 37 rfl z32 Zam ?_))
 refine hN.out.mono ?_
 rintro e w1 ⟨rfl,hb⟩
 have R1:=hid ((hb.block _ hlt.out).trans h0.out)
 have W1:=hid (W0.out.trans (hb.mono (Nat.le_succ _)))
 clear hb
 go_wp2_with (((with_reducible refine stW 2 17 w.heap.size 37 z32 ?_ ?_ ?_ ?_ ?_);exact R1.out;exact js.out;exact zs.out;exact os.out;intro w4 hg4 hb4 hs4))
 exact Vy0 (v:=.agg dk.toArray) (results_cell_row Tryz.results191 _ _ w.heap.size 37 _ (0,0) _ rfl hg4 hu rfl js.out) rfl ⟨rfl,W1.out.grown hb4 W1.out.size (fun g e=>by injection e with e;omega)⟩
theorem YaR{F:Nat→Prop}{w:World}{d:Nat}{l:List UInt8}(hl:l.length=32)(h:Rd w (some ⟨d,0,none⟩) l)(hF:F d):Enc.rep F w l [.slice (some ⟨d,0,none⟩) 32 32]:=
 ⟨some ⟨d,0,none⟩,32,by rw[hl],by rw[hl];exact Vx8 _,by decide,h.row fun a ha _=>by injection ha with ha;subst ha;exact hF⟩
theorem Zm0(a b:Dg):(tagB 8 [a.1,b.1]).length≤100000:=by simp[tagB,partB,Zav,a.2,b.2]
theorem YaZ{w:World}{ls:List (List UInt8)}{xs:List (HItems w ls)}{a b:List (List UInt8)}(h:xs.map (fun x=>x.1.ls)=[a,b]):xs.map (fun x=>(rootR x.1.ls).1)=[(rootR a).1,(rootR b).1]:=by
 have:=congrArg (List.map fun l=>(rootR l).1) h
 rw[List.map_map]at this
 exact this
theorem YaX(ls:List (List UInt8))(h2:2≤ls.length)(ih:∀ms:List (List UInt8),ms.length<ls.length→RootAt ms):RootAt ls:=by
 intro A c w hr hc hm hl hx hT
 have hu:=Tryz.underlying37
 have hsl:=ZaA
 have b1:=Vx0 w (.cells z32 37)
 have X1:=Zad w (.cells z32 37)
 obtain⟨rd,hrd⟩:∃d,rootR ls=d:=⟨_,rfl⟩
 rw[hrd]
 have e1:sha256 (tagB 8 [(rootR (ls.take (firstN ls.length))).1,(rootR (ls.drop (firstN ls.length))).1])=rd.1:=by rw[← hrd,Zen h2];rfl
 have q0:((ls.length:Int)==0)=false:=by rw[beq_eq_false_iff_ne];omega
 have q1:((ls.length:Int)==1)=false:=by rw[beq_eq_false_iff_ne];omega
 have js:=hid (ZaB rd)
 have zs:=hid (ZdO rd)
 have os:=hid (ZaV rd)
 have hlow:=hT.low
 have hr1:=hr.bel X1
 have hT1:=hT.bel X1 hlow
 have hs1:(w.alloc (.cells z32 37)).heap.size=w.heap.size+1:=Vx2 _ _
 refine(callsIn_wide (n:=4)).1 ?_
 refine callsIn_of_wp_marks Tryz.func191 rfl trivial ?_ rfl
 simp only[Tryz.ntmps191,Vx7,List.length_cons,List.length_nil,Nat.reduceAdd,Nat.reduceSub,Array.replicate_succ,Array.replicate_zero,List.push_toArray,List.append_toArray,List.nil_append,List.cons_append]
 gi_wp2_with ((with_reducible refine Zcu rfl 37 rfl z32 Zam ?_))
 refine⟨trivial,callsIn_wide.2 ((Zo5 A ls.length c _).mono ?_)⟩
 generalize w.alloc (.cells z32 37)=w1 at *
 rintro e W0 ⟨rfl,hW0⟩
 have hs0:W0.heap.size=w1.heap.size+1+1:=by rw[hW0];simp
 have bo:Boxed W0 w1.heap.size 191 (.slice none 0 0):=by rw[hW0];exact(Boxed.new w1 191 (.slice none 0 0)).alloc _
 have bt:W0.heap[w1.heap.size+1]? =some (.cells #[.slice A ls.length c] 191 (0,0)):=by
  rw[hW0]
  have:=Vx0 (w1.alloc (.cells #[.slice none 0 0] 191)) (.cells #[.slice A ls.length c] 191)
  rw[Vx2]at this
  exact this
 have Y0:Below w1.heap.size w1 W0:=by rw[hW0];exact(Zad w1 _).alloc (by simp) _
 clear hW0
 simp only[Vx2,hs1]
 rw[hs1]at bo bt hs0
 gi_wp2
 refine wpIn_rangeFunc_ownG (F:=Fence.wide) rfl (by omega) (gf:=257) (lb:=#[.pointer (some ⟨w.heap.size+1+1,0,none⟩)]) rfl trivial (enters_of Tryz.func257 (by kernel_rfl) rfl)
  (encs:=fun x:HItems w1 ls=>HItem.encs x.1) (Kp:=KeepA w1.heap.size (ZR (w.heap.size+1) W0.heap.size)) (S:=fun xs=>xs.map (fun x=>x.1.ls)=[ls.take (firstN ls.length),ls.drop (firstN ls.length)]) (Sp:=fun _=>True) (N:=2) (w0:=W0)
  (fun l J Jx W hW hJ hJx hY h0=>ZwK 3 l w1.heap.size (w.heap.size+1+1) (ZR (w.heap.size+1) W0.heap.size) (by unfold ZR;omega) A c ls w1 W hr1 h2 hl hc hm ((hW.block _ (block_lt bt)).trans bt) J Jx
   (fun m pre x X hx hl=>YieldAt.anyDepth rfl m (hY pre x X hx hl)) h0)
  (fun h k=>h.trans k) (ZtN Y0.size) (Below.refl _ _) (fun _=>rfl)
  (LoopR w1 ls (w.heap.size+1) W0.heap.size) (fun _ _ _=>False) (ZwZ w1 ls _ _ Y0.size) (fun _ _ _ _ _ h _ _=>h)
  ⟨⟨none,0,bo,OwnQ.nil _ _ _⟩,Y0,Vx8 _⟩
  (fun x=>{ tmps:=#[.slice A ls.length c,undef,.pointer (some ⟨w.heap.size,0,none⟩),.pointer (some ⟨w.heap.size+1,0,none⟩),.slice x.1.A x.1.ls.length x.1.c,undef,.slice A ls.length c,
   .int .i64 (ls.length:Int),.bool false,.bool false,undef,.bool false,.bool false,undef,undef,undef,undef,undef,.slice A ls.length c,.func (.func 257) #[] #[.pointer (some ⟨w.heap.size+1+1,0,none⟩)],.slice x.1.A x.1.ls.length x.1.c,undef,undef,undef,undef,undef,undef,undef,undef],defers:=[] }) ?assign ?body ?done ?stop
 case stop=>exact fun D cd pre W hD hS h=>h.elim
 case assign=>
  rintro l ⟨⟨A2,c2,y⟩,hx⟩ W K hK
  dsimp only[HItem.encs]
  gi_wp2
  exact hK
 case body=>
  rintro l pre ⟨⟨A2,c2,y⟩,⟨hx1,hx2,hx3⟩,hx4,hx5⟩ W ⟨⟨A',c',hv,ho⟩,hB,hB0⟩ hlt
  simp only at hx1 hx2 hx3 hx4 hx5 ⊢
  have hR:=hid (ih y hx4 A2 c2 W (hx1.bel hB) hx2 hx3 (by omega) (fun z hz=>hx z (hx5 z hz)) (hT1.bel hB hT1.low))
  have hlm:(pre.map fun x=>(rootR x.1.ls).1).length≤2:=by rw[Vx6];omega
  have hfin:∀q:HGood w1 ⟨A2,c2,y⟩∧y.length<ls.length∧∀z∈y,z∈ls,Hid ((pre++[⟨⟨A2,c2,y⟩,q⟩]:List (HItems w1 ls)).map (fun x=>(rootR x.1.ls).1)=(pre.map fun x=>(rootR x.1.ls).1)++[(rootR y).1]):=fun _=>hid (by rw[List.map_append];rfl)
  generalize (pre.map fun x=>(rootR x.1.ls).1)=ps at *
  have hsy:=hid (ZaB (rootR y))
  have hzy:=hid (ZdO (rootR y))
  have hoy:=hid (ZaV (rootR y))
  gi_wp2_with fail
  refine⟨trivial,CallsIn.inRound l (callsIn_wide.2 (hR.out.mono ?_))⟩
  rintro e v2 ⟨rfl,hb2⟩
  have h3:=Vx0 v2 (.cells z32 37)
  gi_wp2_with (first
   |(with_reducible refine Zcu rfl 37 rfl z32 Zam ?_)
   |(refine ZbF rfl 37 (.tmp 5) (.tmp 22) rfl v2.heap.size ((rootR y).1.map bv).toArray rfl rfl 37 z32 ?_ ?_ ?_ ?_ ?_;exact h3;exact hsy.out;exact hzy.out;exact hoy.out;intro w4 g4 hg4 hs4))
  have X4:Below W.heap.size W w4:=hb2.trans ((Zan rfl hg4).mono hb2.size)
  have hcv:=hv.cell
  have hfv:=hv.frozen
  have FIN:∀(w6:World) (X6:Below W.heap.size W w6) (A7:Option Addr) (c7:Nat) (w7:World) (ho7:OwnR 41 w7 W0.heap.size A7 c7 (ps++[(rootR y).1])) (hb7:Below W0.heap.size w6 w7) (hg7:w6.grownBy w7 (A'.map (·.block)))
    (hv7:Boxed w7 (w.heap.size+1) 191 (.slice A' ps.length c')),
    KeepsFrom W0.heap.size W (w7.setCell ⟨w.heap.size+1,0,none⟩ (.slice A7 (ps++[(rootR y).1]).length c7))∧KeepA w1.heap.size (ZR (w.heap.size+1) W0.heap.size) W (w7.setCell ⟨w.heap.size+1,0,none⟩ (.slice A7 (ps++[(rootR y).1]).length c7))∧
     LoopR w1 ls (w.heap.size+1) W0.heap.size (pre++[⟨⟨A2,c2,y⟩,⟨hx1,hx2,hx3⟩,hx4,hx5⟩]) (w7.setCell ⟨w.heap.size+1,0,none⟩ (.slice A7 (ps++[(rootR y).1]).length c7)):=by
   intro w6 X6 A7 c7 w7 ho7 hb7 hg7 hv7
   have hcel:∀k,some k=A'.map (·.block)→W0.heap.size≤k∧∃cur,W.heap[k]? =some (.cells cur 41 (0,0)):=fun k hk=>by
    obtain⟨G,k1,k2⟩:=ho
    rcases A' with _|a
    ·cases hk
    ·obtain⟨cur,e,hc⟩:=k1.form a rfl
     have:=(k1.blk a rfl).1
     simp only[Option.map_some,Option.some.injEq]at hk
     exact⟨by omega,cur,hk▸hc⟩
   have hsame:∀(k:Nat) (ob:Obj),W.heap[k]? =some ob→some k≠A'.map (·.block)→w7.heap[k]? =some ob:=fun k ob hk hne=>by
    have hkl:=(Array.getElem?_eq_some_iff.1 hk).1
    exact(hg7.block k (Vx4 hkl X6.size) hne).trans ((X6.block k hkl).trans hk)
   have hW7:Below w1.heap.size W w7:=(X6.mono hB.size).trans (hb7.mono Y0.size)
   have hon:w1.heap.size≤w.heap.size+1:=by omega
   refine⟨⟨Vx1 hW7.size (by simp[World.setCell]),fun k ob _ hk hc=>?_⟩,⟨hW7.setCell (p:=⟨w.heap.size+1,0,none⟩) hon _,fun b cs t fr hb ht=>?_⟩,⟨A7,c7,?_,?_⟩,?_,?_⟩
   ·refine(Vy3 _ _ _ _ (fun e=>?_)).trans (hsame k ob hk fun e=>?_)
    ·simp only at e
     subst e
     rw[hv]at hk
     injection hk with hk
     subst hk
     cases hc
    ·obtain⟨-,cur,h⟩:=hcel k e
     rw[h]at hk
     injection hk with hk
     subst hk
     cases hc
   ·refine((Vy3 _ _ _ _ (fun e=>?_)).trans (hsame b _ hb fun e=>?_)).trans hb.symm
    ·exact ht (.inl e)
    ·exact ht (.inr (hcel b e).1)
   ·rw[(hfin _).out]
    exact hv7.set _
   ·rw[(hfin _).out]
    exact ho7.setG (by omega) (by omega) _
   ·exact(hB.trans hW7).setCell (p:=⟨w.heap.size+1,0,none⟩) hon _
   ·exact Vx1 hB0 (Vx1 X6.size (Vx1 hb7.size (by simp[World.setCell])))
  have R4:Rd w4 (some ⟨v2.heap.size,0,none⟩) (rootR y).1:=Za4 g4
  have PF:∀(w6:World) (hb:Below w4.drew.heap.size w4.drew w6),∀b,b=v2.heap.size→W0.heap.size≤b∧Soft w6 b∧∀a,A'=some a→b≠a.block:=by
   rintro w6 hb b rfl
   have g5:w4.drew.heap[v2.heap.size]? =some (.cells ((rootR y).1.map bv).toArray 37 (0,0)):=g4
   exact⟨Vx1 hB0 hb2.size,⟨_,_,(hb.block _ (block_lt g5)).trans g5⟩,fun a ha e=>by have:=(ho.blk a ha).2;have:=hb2.size;omega⟩
  have X5:=X4.trans ((Zao w4).mono X4.size)
  have R5:=R4.bel (Zao w4)
  replace hv:=hid hv
  replace FIN:=hid FIN
  replace PF:=hid PF
  replace R5:=hid R5
  clear h3 hg4 hs4 hR R4 X4 g4
  gi_wp2
  refine Yk2 (fun w'=>Boxed w' (w.heap.size+1) 191 (.slice A' ps.length c')) (Zaw hv.out X5 hv.out.lt) fun hS=>?_
  generalize w4.drew=w5 at *
  replace X5:=hid X5
  refine' tiL 0 (.slice A' ps.length c') rfl (fun w' h=>?_) ?_
  ·have hCell:=Boxed.cell h
   go_simp
   first|done|(with_reducible rfl)
  try simp only[sQ]
  refine' tiP 1 rfl ?_
  try simp only[sQ]
  refine rdI 2 rfl fun K hK=>?_
  refine ZaH ZaP (by decide) (by rfl) (.tmp 24) rfl [.slice (some ⟨v2.heap.size,0,none⟩) 32 32] rfl rfl ?_
  intro w6 hw6
  have X6:Below W.heap.size W w6:=hw6▸X5.out.trans ((Zad w5 _).mono X5.out.size)
  have src6:Hid (Src (fun b=>b=v2.heap.size) w6 (some ⟨w5.heap.size,0,none⟩) [(rootR y).1]):=hid (hw6▸ZaE (YaR (rootR y).2 R5.out rfl))
  have hF6:Hid (∀ b,b=v2.heap.size→W0.heap.size≤b∧Soft w6 b∧∀a,A'=some a→b≠a.block):=hid (PF.out w6 (hw6▸Zad w5 _))
  clear hw6
  refine hK _ _ (Zaw hv.out X6 hv.out.lt) fun hS=>?_
  clear hK K
  try simp only[sQ]
  refine rdI 3 rfl fun K hK=>?_
  refine ZaN ZaP (by rfl) (.tmp 23) (.tmp 25) rfl W0.heap.size W0.heap.size A' (some ⟨w5.heap.size,0,none⟩) ps.length 1 c' 1 ps [(rootR y).1] _ rfl rfl rfl rfl (ho.bel X6) src6.out hF6.out (by simp;omega) (Vx1 hB0 X6.size) ?_
  intro A7 c7 w7 ho7 hb7 hg7
  have hv7:Boxed w7 (w.heap.size+1) 191 (.slice A' ps.length c'):=Zaw (Zaw hv.out X6 hv.out.lt) hb7 (by omega)
  have hc7:=hv7.cell
  have hf7:=hv7.frozen
  replace ho7:=hid ho7
  refine hK _ _ hv7 fun hS=>?_
  clear hK K
  try simp only[sQ]
  refine Ynp 4 rfl fun K hK=>?_
  go_simp
  refine hK _ _ ?_
  clear hK K
  try simp only[sQ]
  refine dnI ?_
  gi_wp2
  have F:=FIN.out w6 X6 A7 c7 w7 ho7.out hb7 hg7 hv7
  rw[show (ps++[(rootR y).1]).length=ps.length+1 by simp]at F
  exact F
 case done=>
  rintro D xs W hD hS ⟨⟨A',c',hv,ho⟩,hB,hB0⟩ hK
  rw[YaZ hS]at hv ho
  have hO:=Zcx 8 A' c' 2 _ W ho.row.rds rfl (by simp) (Zm0 _ _) (hT1.bel hB hT1.low)
  rw[e1]at hO
  replace hO:=hid hO
  have hg0:=hid ((hB.block _ (block_lt b1)).trans b1)
  have hcv:=hv.cell
  have hfv:=hv.frozen
  have Z0:=X1.trans (hB.mono X1.size)
  clear hS e1 ih ho hx hT hr hT1 hr1 hv bt bo
  gi_wp2_with fail
  refine⟨trivial,callsIn_wide.2 (hO.out.mono ?_)⟩
  rintro e w8 ⟨rfl,hb8⟩
  have Z8:=Z0.trans (hb8.mono Z0.size)
  have G8:=(hb8.block _ (block_lt hg0.out)).trans hg0.out
  have D8:=(hb8.block _ (Array.getElem?_eq_some_iff.1 hK).1).trans hK
  gi_wp2_with ((refine ZbF rfl 37 (.tmp 2) (.tmp 28) rfl w.heap.size (rd.1.map bv).toArray rfl rfl 37 z32 ?_ ?_ ?_ ?_ ?_;exact G8;exact js.out;exact zs.out;exact os.out;intro w9 g9 hg9 hs9))
  have Z9:Below w.heap.size w w9:=Z8.grown hg9 Z8.size (fun k e=>by injection e with e;omega)
  have D9:w9.heap[D]? =some (.deferred (some [])):=(hg9.block _ (Array.getElem?_eq_some_iff.1 D8).1 (fun e=>by injection e with e;omega)).trans D8
  refine⟨by simp,.inl ⟨_,_,rfl,run_takeDeferred D9,?_⟩⟩
  exact⟨_,results_cell_row Tryz.results191 _ _ w.heap.size 37 _ (0,0) _ rfl ((World.putObj_heap_other (by omega)).trans g9) hu rfl js.out,rfl,Z9.trans (belowK_b (w:=w) (Vx8 _) w9 D _ _ (by omega) D9 rfl rfl)⟩
theorem ZqD:∀(k:Nat) (ls:List (List UInt8)),ls.length≤k→RootAt ls:=by
 intro k
 induction k with
 |zero=>intro ls h;obtain rfl:ls=[]:=List.eq_nil_of_length_eq_zero (by omega);exact Zr9
 |succ k ih=>
  intro ls h
  match ls,h with
  |[],_=>exact Zr9
  |[x],_=>exact YaY x
  |x::y::m,h=>exact YaX (x::y::m) (by simp) fun ms hm=>ih ms (by omega)
theorem Zjx(ls:List (List UInt8)):RootAt ls:=ZqD _ ls (Vx8 _)
end
instance:Enc Fk where
 size:=3
 rep:=fun _ _ x vs=>vs=[.int .i64 (x.f:Int),.int .i64 (x.t:Int),.bool x.l]
 len:=by rintro F w x vs rfl;rfl
 one:=by rintro F w x vs rfl v hv;simp at hv;rcases hv with rfl|rfl|rfl<;>rfl
 kept:=fun h _=>h
 mono:=fun h _=>h
theorem ZoL{ls:List (List UInt8)}(h:listR ls=true):ls.length≤256∧∀x∈ls,x.length≤4096:=by
 unfold listR at h
 simp only[Bool.and_eq_true,decide_eq_true_eq,List.all_eq_true]at h
 exact⟨h.1,h.2⟩
theorem Zb0(A:Option Addr)(c:Nat)(ls:List (List UInt8))(w:World)(hr:Rds w A ls)(hc:ls.length≤c)(hm:c≤maxLen)(hl:ls.length≤1000000)(hT:Tab w):
  Calls Tryz.prog 140 #[.slice A ls.length c] w fun e w'=>e=.returned (.tuple #[.agg ((rootRL ls).1.map bv).toArray,.int .i64 (if listR ls=true then 0 else 8)])∧Below w.heap.size w w':=by
 have h0:=hid (Vx0 w (.cells z32 37))
 have W0:=hid (Zad w (.cells z32 37))
 have hM:=Zms A c ls _ (hr.bel W0.out) hl
 obtain⟨m,hmm⟩:∃m,listR ls=m:=⟨_,rfl⟩
 have hL:rootRL ls=if m=true then rootR ls else z0R:=by unfold rootRL;rw[hmm]
 rw[hmm]at hM ⊢
 rw[hL]
 cases m with
 |false=>
  simp only[Bool.false_eq_true,if_false]
  have hbz:=hid ZmS
  have oz:z32.all (·.oneCell')=true:=Zay (List.replicate 32 0)
  replace hM:=hid hM
  clear hL hr hT
  go_enter Tryz.func140,Tryz.ntmps140
  go_wp2_with ((with_reducible refine Zac rfl 37 rfl z32 Zam ?_))
  refine hM.out.mono ?_
  rintro e w1 ⟨rfl,rfl⟩
  go_wp2_with (first
   |((with_reducible refine Zaf rfl 37 _ rfl z32 [] ?_ ?_ ?_);exact hbz.out;rfl)
   |((with_reducible refine stW 2 7 w.heap.size 37 z32 ?_ ?_ ?_ ?_ ?_);exact h0.out;(rw[z32_size];exact Zai);rfl;exact oz;intro w4 hg4 hb4 hs4))
  exact Vy0 (ZlG rfl _ _ w.heap.size z0R rfl hg4) rfl ⟨rfl,W0.out.grown hb4 W0.out.size (fun g e=>by injection e with e;omega)⟩
 |true=>
  simp only[if_true]
  obtain⟨l1,l2⟩:=ZoL hmm
  have hO:=Zjx ls A c _ (hr.bel W0.out) hc hm l1 l2 (hT.bel W0.out hT.low)
  generalize rootR ls=d at *
  have z1:((d.1.map bv).toArray).size=32:=by simp[d.2]
  have o1:=Zay d.1
  replace hM:=hid hM
  replace hO:=hid hO
  clear hL hr l2 hT
  go_enter Tryz.func140,Tryz.ntmps140
  go_wp2_with ((with_reducible refine Zac rfl 37 rfl z32 Zam ?_))
  refine hM.out.mono ?_
  rintro e w1 ⟨rfl,rfl⟩
  go_wp2_with fail
  refine hO.out.mono ?_
  rintro e w2 ⟨rfl,hb⟩
  have R2:=hid ((hb.block _ (block_lt h0.out)).trans h0.out)
  have W2:=hid (W0.out.trans (hb.mono W0.out.size))
  clear hb
  go_wp2_with (((with_reducible refine stW 2 9 w.heap.size 37 z32 ?_ ?_ ?_ ?_ ?_);exact R2.out;(rw[z1];exact Zai);(rw[z1];exact z32_size);exact o1;intro w4 hg4 hb4 hs4))
  exact Vy0 (ZlG rfl _ _ w.heap.size d rfl hg4) rfl ⟨rfl,W2.out.grown hb4 W2.out.size (fun g e=>by injection e with e;omega)⟩
end Go.Proofs.YtnnclggeifnomaaGreatDoor
