import Derived.Test.YtnnclggeifnomaaGreatDoorTagX
set_option maxRecDepth 100000
set_option linter.all false
set_option maxHeartbeats 400000
namespace Go.Proofs.YtnnclggeifnomaaGreatDoor
open Go.RowKit
theorem Ygg(A:Option Addr)(c f t:Nat)(l:List UInt8)(w:World)(hr:Rd w A l)(hft:f≤t)(ht:t≤l.length)(hc:l.length≤c)(hm:c≤9223372036854775807)(hb47:l.length≤140737488351232):
  Calls Tryz.prog 179 #[.slice A l.length c,.int .i64 (f:Int),.int .i64 (t:Int)] w fun e w'=>∃A' c',e=.returned (.slice A' ((l.drop f).take (t-f)).length c')∧Own 5 w' w.heap.size A' c' ((l.drop f).take (t-f))∧Below w.heap.size w w':=by
 obtain⟨i0,hi0,hz0,hz1,hz2⟩:=info_parts Zfs
 have hsz:(Tryz.prog.info? 5).map (·.size)=some 1:=by rw[hi0];simp[hz1]
 obtain⟨x,hx⟩:∃x,x=(l.drop f).take (t-f):=⟨_,rfl⟩
 have hlen:x.length=t-f:=by rw[hx];simp;omega
 have hcut:=hr.cut f t t hft ht (Vx8 _)
 rw[← hx]at hcut ⊢
 have Hx:=hid hx
 clear hx
 by_cases hne:t=f
 ·subst hne
  obtain rfl:x=[]:=List.eq_nil_of_length_eq_zero (by omega)
  have hz:(t-t)=0:=by omega
  go_enter Tryz.func179,Tryz.ntmps179
  go_wp2_with (first
   |(at_make;refine wpList_make_full _ rfl _ _ 41 rfl w.heap.size 5 i0 (.int .u8 0) 1 Tryz.underlying41 hi0 hz0 hz1 _ _ _ _ 0 rfl rfl (by go_num) (by go_num) (by rw[hz2];omega) (by unfold maxLen;omega) (Vx8 _) ?_;intro w1 hown1 hgrow1;have hg1:=Zbr hown1;have hb1:=(Below.refl w.heap.size w).grown hgrow1 (Vx8 _) (by simp))
   |(with_reducible refine wpList_copy_nothing rfl (.tmp 17) (.tmp 18) 41 41 rfl 5 Tryz.underlying41 hsz _ _ _ _ _ _ rfl rfl (by simp) ?_))
  go_ret
  exact⟨_,_,rfl,Own.of_block (l:=[]) (by simpa using hg1) (Vx8 _) (by simp),hb1⟩
 ·rw[if_neg hne]at hcut
  have hpos:0<x.length:=by omega
  go_enter Tryz.func179,Tryz.ntmps179
  go_wp2_with (first
   |(at_make;refine wpList_make_full _ rfl _ _ 41 rfl w.heap.size 5 i0 (.int .u8 0) 1 Tryz.underlying41 hi0 hz0 hz1 _ _ _ _ (t-f) rfl rfl (by go_num) (by go_num) (by rw[hz2];omega) (by unfold maxLen;omega) (Vx8 _) ?_;intro w1 hown1 hgrow1;have hg1:=hid (Zbr hown1);have hb1:=(Below.refl w.heap.size w).grown hgrow1 (Vx8 _) (by simp);have hs1:=hid (hcut.bel hb1).src;clear hown1 hgrow1)
   |(with_reducible refine wpList_copy_splice rfl (.tmp 17) (.tmp 18) 41 41 rfl 5 Tryz.underlying41 hsz _ _ _ _ _ _ rfl rfl w.heap.size 0 _ 5 hg1.out (x.map bv) (by simp[hlen]) (fun h=>⟨rfl,hs1.out h⟩) (by simp[hlen]) (Zbn _) w.heap.size w hb1 (Vx8 _) ?_;intro w2 hg2 hb2))
  go_ret
  have hg3:=hg2.out
  rw[Zxo _ _ (by simp[hlen])]at hg3
  have ho:=Own.of_block hg3 (Vx8 _) (by unfold maxLen;omega)
  rw[hlen]at ho ⊢
  exact⟨_,_,rfl,ho,hb2⟩
theorem ZyX(A:Option Addr)(m c f t:Nat)(fi ti:Int)(l x:List UInt8)(w:World)(hr:Rd w A l)(hf:fi=f)(hti:ti=t)(hm:m=l.length)(hx:x=(l.drop f).take (t-f))(hft:f≤t)(ht:t≤l.length)(hc:l.length≤c)(hc2:c≤9223372036854775807)(hb47:l.length≤140737488351232):
  Calls Tryz.prog 179 #[.slice A m c,.int .i64 fi,.int .i64 ti] w fun e w'=>∃A' c',e=.returned (.slice A' x.length c')∧Own 5 w' w.heap.size A' c' x∧Below w.heap.size w w':=by
 subst hf hti hm hx
 exact Ygg A c f t l w hr hft ht hc hc2 hb47
theorem Ziz(A:Option Addr)(n c k:Nat)(l:List UInt8)(w:World)(hr:Rd w A l)(hn:n=l.length)(h8:k≤8)(hk:k≤l.length)(hb:l.length≤9223372036854775807):
  Calls Tryz.prog 178 #[.slice A n c,.int .i64 (k:Int)] w fun e w'=>e=.returned (.int .u64 (num (l.take k):Int))∧w=w':=by
 subst hn
 go_enter Tryz.func178,Tryz.ntmps178
 go_wp2
 go_loop [5,8] (fun v i=>∃j:Nat,j≤k∧i=.int .i64 j∧v=.int .u64 (num (l.take j):Int)) (fun _ i=>k-(intOf i).toNat)
 case atStart=>exact⟨0,Nat.zero_le _,rfl,rfl⟩
 case round=>
  obtain⟨j,hj,rfl,rfl⟩:=hrel
  by_cases hlt:j<k
  ·obtain⟨b,o,rfl,hc⟩:=Zhl hr (by omega)
   have hcell:=hc j (by omega)
   clear hc hr
   have Hs:=hid (Zj2 l j (by omega))
   have Ho:=hid (Yg5 _ l[j] (Znk l j k hlt h8))
   go_wp2
   go_round
   case rel=>exact⟨j+1,by omega,by go_num,by rw[Ho.out,Hs.out]⟩
   case measure=>simp[intOf];omega
  ·obtain rfl:j=k:=by omega
   go_wp2
   go_ret
   exact⟨rfl,rfl⟩
theorem ZxF(A:Option Addr)(m c:Nat)(l:List UInt8)(w:World)(hm:m=l.length):
  Calls Tryz.prog 125 #[.slice A m c] w fun e w'=>e=.returned (.int .i64 (endE l))∧w=w':=by
 subst hm
 by_cases h0:l.length=0
 ·have e1:endE l=0:=by simp only[endE];rw[if_pos h0]
  have ht:((l.length:Int) !=0)=false:=by rw[bne_eq_false_iff_eq];omega
  rw[e1]
  clear e1 h0
  go_enter Tryz.func125,Tryz.ntmps125
  go_wp2
  go_ret
  exact⟨rfl,rfl⟩
 ·have e1:endE l=11:=by simp only[endE];rw[if_neg h0]
  have ht:((l.length:Int) !=0)=true:=by rw[bne_iff_ne];omega
  rw[e1]
  clear e1
  go_enter Tryz.func125,Tryz.ntmps125
  go_wp2
  go_ret
  exact⟨rfl,rfl⟩
theorem Zn1(A:Option Addr)(m c:Nat)(l:List UInt8)(e:Int)(w:World)(hm:m=l.length)(he:endE l=e):
  Calls Tryz.prog 125 #[.slice A m c] w fun r w'=>r=.returned (.int .i64 e)∧w=w':=by
 subst he
 exact ZxF A m c l w hm
theorem ZjC(A:Option Addr)(m c:Nat)(l:List UInt8)(s:Int)(w:World)(hr:Rd w A l)(hm:m=l.length)(hc:l.length≤c)(hc2:c≤9223372036854775807)(hb47:l.length≤140737488351232):
  Calls Tryz.prog 124 #[.slice A m c,.int .i64 s] w fun e w'=>∃A' c',e=.returned (.tuple #[.int .u64 (takeN l s:Int),.slice A' (takeR l s).length c',.int .i64 (takeE l s)])∧Own 5 w' w.heap.size A' c' (takeR l s)∧Below w.heap.size w w':=by
 subst hm
 by_cases hs:1≤s∧s≤8
 ·obtain⟨k,rfl⟩:=Int.eq_ofNat_of_zero_le (show 0≤s by omega)
  by_cases hk:l.length<k
  ·have e1:takeE l k=10:=by simp only[takeE];rw[if_pos hs,if_pos (by omega)]
   have e2:takeR l k=[]:=by simp[takeR,e1]
   have e3:takeN l k=0:=by simp[takeN,e1]
   rw[e1,e2,e3]
   obtain⟨h1,h8⟩:=hs
   clear e1 e2 e3
   go_enter Tryz.func124,Tryz.ntmps124
   go_wp2_with (first|(go_at_call 177;refine(Zit _ _ (by omega) (by omega)).mono ?_;rintro e w' ⟨rfl,rfl⟩))
   go_ret3
   exact⟨_,_,rfl,Own.nil _ _,Below.refl _ _⟩
  ·have e1:takeE l k=0:=by simp only[takeE];rw[if_pos hs,if_neg (by omega)]
   have e2:takeR l k=l.drop k:=by simp[takeR,e1]
   have e3:takeN l k=num (l.take k):=by simp[takeN,e1]
   have e4:(l.drop k).take (l.length-k)=l.drop k:=List.take_of_length_le (by simp)
   rw[e1,e3]
   obtain⟨h1,h8⟩:=hs
   have E4:Hid (takeR l k=(l.drop k).take (l.length-k)):=by rw[e4];exact e2
   clear e1 e2 e3 e4
   generalize takeR l k=x at *
   go_enter Tryz.func124,Tryz.ntmps124
   go_wp2_with (first|(go_at_call 177;refine(Zit _ _ (by omega) (by omega)).mono ?_;rintro e w' ⟨rfl,rfl⟩)|(go_at_call 178;refine(Ziz A _ c k l _ hr rfl (by omega) (by omega) (by omega)).mono ?_;rintro e w' ⟨rfl,rfl⟩)|(go_at_call 179;refine(ZyX A _ c k l.length _ _ l x _ hr (by omega) (by omega) rfl E4.out (by omega) (by omega) (by omega) (by omega) hb47).mono ?_;rintro e w1 ⟨A1,c1,rfl,ho,hb⟩))
   go_ret3
   exact⟨_,_,rfl,ho,hb⟩
 ·have e1:takeE l s=2:=by simp only[takeE];rw[if_neg hs]
  have e2:takeR l s=[]:=by simp[takeR,e1]
  have e3:takeN l s=0:=by simp[takeN,e1]
  rw[e1,e2,e3]
  have hs':s<1∨8<s:=by omega
  clear e1 e2 e3 hs
  go_enter Tryz.func124,Tryz.ntmps124
  go_wp2_with (first|(go_at_call 177;refine(Zrz _ _ hs').mono ?_;rintro e w' ⟨rfl,rfl⟩))
  go_ret3
  exact⟨_,_,rfl,Own.nil _ _,Below.refl _ _⟩
theorem Zdu(A:Option Addr)(m c:Nat)(l:List UInt8)(s:Int)(v:Int)(b:List UInt8)(e:Int)(w:World)(hr:Rd w A l)(hm:m=l.length)(hc:l.length≤c)(hc2:c≤9223372036854775807)(hb47:l.length≤140737488351232)
  (hv:(takeN l s:Int)=v) (hb:takeR l s=b) (he:takeE l s=e):
  Calls Tryz.prog 124 #[.slice A m c,.int .i64 s] w fun r w'=>∃A' c',r=.returned (.tuple #[.int .u64 v,.slice A' b.length c',.int .i64 e])∧Own 5 w' w.heap.size A' c' b∧Below w.heap.size w w':=by
 subst hv hb he
 exact ZjC A m c l s w hr hm hc hc2 hb47
end Go.Proofs.YtnnclggeifnomaaGreatDoor
