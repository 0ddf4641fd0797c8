import Derived.Shelf.Spec.SlicesGrow
import Derived.Test.YtnnclggeifnomaaGreatDoorBits
set_option linter.all false
namespace Go.Proofs.YtnnclggeifnomaaGreatDoor
open Go.RowKit Go.Shelf
set_option maxRecDepth 100000
def renGB:Ren where
 f:=fun x=>match x with
  |4=>252
  |y=>y
 t:=fun x=>match x with
  |0=>0
  |3=>3
  |4=>4
  |9=>9
  |20=>20
  |22=>41
  |25=>5
  |y=>y
 g:=fun x=>x
theorem Yff:Lays8.n4 Tryz.prog renGB where
 mixed:=by kernel_rfl
 f4:=⟨Tryz.f252.name,by kernel_rfl,by kernel_rfl⟩
 t0:=Tryz.underlying0
 a0:=Tryz.isAgg0
 z0:=Tryz.sizeOf0
 v0:=Tryz.zeroValue0
 t3:=Tryz.underlying3
 a3:=Tryz.isAgg3
 z3:=Tryz.sizeOf3
 v3:=Tryz.zeroValue3
 t4:=Tryz.underlying4
 a4:=Tryz.isAgg4
 z4:=Tryz.sizeOf4
 v4:=Tryz.zeroValue4
 t9:=Tryz.underlying9
 a9:=Tryz.isAgg9
 z9:=Tryz.sizeOf9
 v9:=Tryz.zeroValue9
 t20:=Tryz.underlying20
 a20:=Tryz.isAgg20
 z20:=Tryz.sizeOf20
 v20:=Tryz.zeroValue20
 t22:=Tryz.underlying41
 a22:=Tryz.isAgg41
 z22:=Tryz.sizeOf41
 v22:=Tryz.zeroValue41
theorem Zzw(n:Nat)(w:World)(hn:n≤1000000000):
  Calls Tryz.prog 252 #[.slice none 0 0,.int .i64 (n:Int)] w fun e w'=>∃A' c',e=.returned (.slice A' 0 c')∧Own 5 w' w.heap.size A' c' []∧Below w.heap.size w w':=by
 rcases Nat.eq_zero_or_pos n with h0|h0
 ·subst h0
  refine(Any8.slices_Grow_room Yff none 0 0 0 w (by omega) (by omega) (by omega) (by omega)).mono ?_
  rintro e w' ⟨rfl,rfl⟩
  exact⟨none,0,rfl,Own.nil _ _,Below.refl _ _⟩
 ·obtain⟨i,hi,hz,hsz,hby⟩:=info_parts Zfs
  refine(Any8.slices_Grow_grow Yff i (.int .u8 0) hi hz (by rw[hsz];decide) none 0 0 n [] w (by omega) (by omega) (by rw[hby];omega) (by omega) (by simp) (fun _=>rfl) (fun a h=>by cases h)).mono ?_
  rintro e w' ⟨rfl,rfl⟩
  refine⟨_,_,rfl,⟨rfl,.inr ⟨w.heap.size,_,_,rfl,Vx8 _,Vx0 w.drew _,Nat.zero_le _,grownCap_le_maxLen _ _ _ _ (by unfold maxLen;omega),?_,by simp⟩⟩,(Zao w).trans (Zad w.drew _)⟩
  have hge:=grownCap_ge w (0+n) 0 5
  have hz1:(Value.int IntKind.u8 0).cells.size=1:=rfl
  simp only[Array.size_append,Vx7,size_zeroCells,List.length_nil,hz1]
  rw[Nat.zero_add,Nat.sub_zero,←Nat.add_mul]
  congr 1
  have:renGB.t 25=5:=rfl
  rw[this]
  simp only[Nat.zero_add]at hge ⊢
  omega
theorem ZoB{l:List (List UInt8)}{j:Nat}(h:j<l.length):(l.take (j+1)).flatten=(l.take j).flatten++l[j]:=by
 rw[Vy5 h,List.flatten_append]
 simp
theorem Zps(l:List (List UInt8))(j:Nat):(l.take j).flatten.length≤l.flatten.length:=by
 have h:l.flatten=(l.take j).flatten++(l.drop j).flatten:=by rw[← List.flatten_append,List.take_append_drop]
 rw[h,Vx3];omega
set_option maxRecDepth 100000 in
set_option maxHeartbeats 1600000 in
theorem Zjc(A0:Option Addr)(c0:Nat)(l:List (List UInt8))(w:World)(hr:Rds w A0 l)(hl:l.length≤1000)(hn:l.flatten.length≤1000000):
  Calls Tryz.prog 224 #[.slice A0 l.length c0] w fun e w'=>∃A' c',e=.returned (.slice A' l.flatten.length c')∧Own 5 w' w.heap.size A' c' l.flatten∧Below w.heap.size w w':=by
 obtain⟨res,hres⟩:∃r,l.flatten=r:=⟨_,rfl⟩
 have hle:=fun j=>Zps l j
 rw[hres]at hn hle ⊢
 replace hres:=hid hres
 replace hle:=hid hle
 go_enter Tryz.func224,Tryz.ntmps224
 go_wp2
 go_loop [3,11] (fun s i=>∃j:Nat,j≤l.length∧i=.int .i64 j∧s=.int .i64 (((l.take j).flatten).length:Int)) (fun _ i=>l.length-(intOf i).toNat)
 case atStart=>exact⟨0,Nat.zero_le _,rfl,rfl⟩
 case round=>
  obtain⟨j,hj,rfl,rfl⟩:=hrel
  by_cases hlt:j<l.length
  ·obtain⟨b0,o0,hA0,hcl⟩:=hr (by omega)
   subst hA0
   obtain⟨A,cc,hc,-,-,-⟩:=hcl j _ (Vx9 hlt)
   have hb1:=hle.out (j+1)
   obtain⟨x,hx⟩:∃x,((l.take j).flatten).length=x:=⟨_,rfl⟩
   have E:Hid ((((l.take (j+1)).flatten).length)=x+l[j].length):=by
    show _=_
    rw[ZoB hlt,Vx3,hx]
   rw[E.out]at hb1
   rw[hx]
   clear hx hcl
   generalize l[j]=q at *
   go_wp2
   go_round
   case rel=>exact⟨j+1,by omega,by go_num,by rw[E.out];go_num⟩
   case measure=>simp[intOf];omega
  ·obtain rfl:j=l.length:=by omega
   rw[List.take_length,hres.out]
   go_wp2_with fail
   refine(Zzw res.length w (by omega)).mono ?_
   rintro e w1 ⟨A1,c1,rfl,ho1,hb1⟩
   go_wp2
   go_loopw [6,27] (fun v i wr=>∃(j:Nat) (A':Option Addr) (c':Nat),j≤l.length∧i=.int .i64 j∧v=.slice A' ((l.take j).flatten).length c'∧Own 5 wr w.heap.size A' c' ((l.take j).flatten)∧Below w.heap.size w wr) (fun _ i _=>l.length-(intOf i).toNat)
   case atStart=>exact⟨0,A1,c1,Nat.zero_le _,rfl,rfl,ho1,hb1⟩
   case round=>
    obtain⟨j,A2,c2,hj2,rfl,rfl,ho,hb⟩:=hrel
    by_cases hlt2:j<l.length
    ·obtain⟨b0,o0,hA0,hcl⟩:=hr (by omega)
     subst hA0
     obtain⟨A,cc,hc,hra,-,-⟩:=hcl j _ (Vx9 hlt2)
     have hc2:=(hb.cell (p:=⟨b0,o0+j,none⟩) (Vx5 _ _ hc)).trans hc
     have hs:=hra.bel hb
     have hb2:=hle.out (j+1)
     have E:=hid (ZoB hlt2)
     have hbs:=hb.size
     rw[E.out,Vx3]at hb2
     clear hc hcl hra
     generalize hy:(l.take (j+1)).flatten=y at *
     replace hy:=hid hy
     generalize (l.take j).flatten=x at *
     generalize l[j]=q at *
     replace hb2:=hid hb2
     go_wp2_with ((at_builtin;refine ZaO u8s rfl (.tmp 31) (.tmp 32) rfl w.heap.size A2 A x.length q.length c2 cc x q rfl rfl rfl rfl ho hs (by have:=hb2.out;omega) hbs ?_;intro A3 c3 w3 ho3 hb3))
     rw[← E.out]at ho3
     go_roundw
     case rel=>
      have hl2:x.length+q.length=y.length:=by rw[E.out,Vx3]
      rw[hl2]
      rw[← hy.out]at ho3 ⊢
      exact⟨j+1,A3,c3,by omega,by go_num,rfl,ho3,hb.trans hb3⟩
     case measure=>simp[intOf];omega
    ·obtain rfl:j=l.length:=by omega
     rw[List.take_length,hres.out]at ho ⊢
     go_wp2
     go_ret
     exact⟨A2,c2,rfl,ho,hb⟩
end Go.Proofs.YtnnclggeifnomaaGreatDoor
