import Derived.Shelf.Spec.SlicesGrow
import Derived.Test.YtimaoonpgilekaaDoorTxS
set_option linter.all false
namespace Go.Proofs.YtimaoonpgilekaaDoor
open Go.RowKit Go.Shelf
set_option maxRecDepth 100000
def renGT:Ren where
 f:=fun x=>match x with
  |4=>45
  |y=>y
 t:=fun x=>match x with
  |0=>0
  |3=>3
  |4=>4
  |9=>9
  |20=>20
  |22=>24
  |25=>33
  |y=>y
 g:=fun x=>x
theorem Yqn:Lays8.n4 Tryd.prog renGT where
 mixed:=by kernel_rfl
 f4:=⟨Tryd.f45.name,by kernel_rfl,by kernel_rfl⟩
 t0:=Tryd.underlying0
 a0:=Tryd.isAgg0
 z0:=Tryd.sizeOf0
 v0:=Tryd.zeroValue0
 t3:=Tryd.underlying3
 a3:=Tryd.isAgg3
 z3:=Tryd.sizeOf3
 v3:=Tryd.zeroValue3
 t4:=Tryd.underlying4
 a4:=Tryd.isAgg4
 z4:=Tryd.sizeOf4
 v4:=Tryd.zeroValue4
 t9:=Tryd.underlying9
 a9:=Tryd.isAgg9
 z9:=Tryd.sizeOf9
 v9:=Tryd.zeroValue9
 t20:=Tryd.underlying20
 a20:=Tryd.isAgg20
 z20:=Tryd.sizeOf20
 v20:=Tryd.zeroValue20
 t22:=Tryd.underlying24
 a22:=Tryd.isAgg24
 z22:=Tryd.sizeOf24
 v22:=Tryd.zeroValue24
theorem Yqw:∃i,Tryd.prog.info? 33=some i∧i.zero=some (.agg zTxC)∧i.size=99∧i.bytes=120:=by
 have h:(Tryd.prog.info? 33).map (fun i=>(i.zero,i.size,i.bytes))=some (some (.agg zTxC),99,120):=by kernel_rfl
 cases hi:Tryd.prog.info? 33 with
 |none=>rw[hi]at h;cases h
 |some i=>
  rw[hi]at h
  injection h with h
  injection h with h1 h2
  injection h2 with h2 h3
  exact⟨i,rfl,h1,h2,h3⟩
theorem Yp2(n:Nat)(w:World)(hn:n≤1000000000):
  Calls Tryd.prog 45 #[.slice none 0 0,.int .i64 (n:Int)] w fun e w'=>∃A' c',e=.returned (.slice A' 0 c')∧OwnR 33 w' w.heap.size A' c' ([]:List Tx)∧Below w.heap.size w w':=by
 rcases Nat.eq_zero_or_pos n with h0|h0
 ·subst h0
  refine(Any8.slices_Grow_room Yqn none 0 0 0 w (by omega) (by omega) (by omega) (by omega)).mono ?_
  rintro e w' ⟨rfl,rfl⟩
  exact⟨none,0,rfl,OwnR.nil _ _,Below.refl _ _⟩
 ·obtain⟨i,hi,hz,hsz,hby⟩:=Yqw
  refine(Any8.slices_Grow_grow Yqn i (.agg zTxC) hi hz (by rw[hsz];decide) none 0 0 n [] w (by omega) (by omega) (by rw[hby];omega) (by omega) (by simp) (fun _=>rfl) (fun a h=>by cases h)).mono ?_
  rintro e w' ⟨rfl,rfl⟩
  refine⟨_,_,rfl,⟨fun _=>False,⟨[],rfl,⟨rfl,.inr ⟨w.heap.size,_,_,rfl,Vx8 _,Vx0 w.drew _,Nat.zero_le _,grownCap_le_maxLen _ _ _ _ (by unfold maxLen;omega),?_,by simp⟩⟩,fun j x vs h=>by simp at h,fun _ _ h=>h⟩,fun b h=>h.elim⟩,(Zao w).trans (Zad w.drew _)⟩
  have hge:=grownCap_ge w (0+n) 0 33
  have hz1:(Value.agg zTxC).cells.size=99:=by decide +kernel
  have hE:Enc.size Tx=99:=rfl
  simp only[Array.size_append,Vx7,size_zeroCells,List.length_nil,hz1,hE]
  rw[Nat.zero_add,Nat.sub_zero,←Nat.add_mul]
  congr 1
  have:renGT.t 25=33:=rfl
  rw[this]
  simp only[Nat.zero_add]at hge ⊢
  omega
theorem YpA{α:Type}{l:List (List α)}{j:Nat}(h:j<l.length):(l.take (j+1)).flatten=(l.take j).flatten++l[j]:=by
 rw[Vy5 h,List.flatten_append]
 simp
theorem YpC{α:Type}(l:List (List α))(j:Nat):(l.take j).flatten.length≤l.flatten.length:=by
 have h:l.flatten=(l.take j).flatten++(l.drop j).flatten:=by rw[← List.flatten_append,List.take_append_drop]
 rw[h,Vx3];omega
theorem YpO{F:Nat→Prop}{w:World}{D:Option Addr}{ls:List (List Tx)}(h:Row F w D ls){j:Nat}(hj:j<ls.length):∃b o A c,D=some ⟨b,o,none⟩∧w.cell? ⟨b,o+j,none⟩=some (.slice A ls[j].length c)∧Row F w A ls[j]:=by
 obtain⟨b,o,rfl,-,-,hc⟩:=h (by omega)
 obtain⟨vs,⟨A,c,rfl,-,-,h3⟩,hcell⟩:=hc j ls[j] (Vx9 hj)
 have h4:=hcell 0 _ rfl
 have hE:Enc.size (List Tx)=1:=rfl
 rw[hE,Nat.mul_one,Nat.add_zero]at h4
 exact⟨b,o,A,c,rfl,h4,h3⟩
set_option maxHeartbeats 4000000 in
theorem Ypu(F:Nat→Prop)(A0:Option Addr)(c0:Nat)(l:List (List Tx))(w:World)(hr:Row F w A0 l)(hl:l.length≤1000)(hn:l.flatten.length≤1000000):
  Calls Tryd.prog 30 #[.slice A0 l.length c0] w fun e w'=>∃A' c',e=.returned (.slice A' l.flatten.length c')∧OwnR 33 w' w.heap.size A' c' l.flatten∧Below w.heap.size w w':=by
 obtain⟨res,hres⟩:∃r,l.flatten=r:=⟨_,rfl⟩
 have hle:=fun j=>YpC l j
 rw[hres]at hn hle ⊢
 replace hres:=hid hres
 replace hle:=hid hle
 go_enter Tryd.func30,Tryd.ntmps30
 go_wp2
 go_loop [3,11] (fun s i=>∃j:Nat,j≤l.length∧i=.int .i64 j∧s=.int .i64 (((l.take j).flatten).length:Int)) (fun _ i=>l.length-(intOf i).toNat)
 case atStart=>exact⟨0,Nat.zero_le _,rfl,rfl⟩
 case round=>
  obtain⟨j,hj,rfl,rfl⟩:=hrel
  by_cases hlt:j<l.length
  ·obtain⟨b0,o0,A,cc,hA0,hc,-⟩:=YpO hr hlt
   subst hA0
   have hb1:=hle.out (j+1)
   obtain⟨x,hx⟩:∃x,((l.take j).flatten).length=x:=⟨_,rfl⟩
   have E:Hid ((((l.take (j+1)).flatten).length)=x+l[j].length):=by
    show _=_
    rw[YpA hlt,Vx3,hx]
   rw[E.out]at hb1
   rw[hx]
   clear hx
   generalize l[j]=q at *
   go_wp2
   go_round
   case rel=>exact⟨j+1,by omega,by go_num,by rw[E.out];go_num⟩
   case measure=>simp[intOf];omega
  ·obtain rfl:j=l.length:=by omega
   rw[List.take_length,hres.out]
   go_wp2_with fail
   refine(Yp2 res.length w (by omega)).mono ?_
   rintro e w1 ⟨A1,c1,rfl,ho1,hb1⟩
   go_wp2
   go_loopw [6,27] (fun v i wr=>∃(j:Nat) (A':Option Addr) (c':Nat),j≤l.length∧i=.int .i64 j∧v=.slice A' ((l.take j).flatten).length c'∧OwnR 33 wr w.heap.size A' c' ((l.take j).flatten)∧Below w.heap.size w wr) (fun _ i _=>l.length-(intOf i).toNat)
   case atStart=>exact⟨0,A1,c1,Nat.zero_le _,rfl,rfl,ho1,hb1⟩
   case round=>
    obtain⟨j,A2,c2,hj2,rfl,rfl,ho,hb⟩:=hrel
    by_cases hlt2:j<l.length
    ·obtain⟨b0,o0,A,cc,hA0,hc,hra⟩:=YpO hr hlt2
     subst hA0
     have hc2:=(hb.cell (p:=⟨b0,o0+j,none⟩) (Vx5 _ _ hc)).trans hc
     have hs:=hid (YoW (G:=fun _=>False) (hra.bel hb))
     have hb2:=hle.out (j+1)
     have E:=hid (YpA hlt2)
     have hbs:=hb.size
     rw[E.out,Vx3]at hb2
     clear hc hra
     generalize hy:(l.take (j+1)).flatten=y at *
     replace hy:=hid hy
     generalize (l.take j).flatten=x at *
     generalize l[j]=q at *
     replace hb2:=hid hb2
     go_wp2_with ((at_builtin;refine ZbG slotTxQ rfl (.tmp 31) (.tmp 32) rfl w.heap.size w.heap.size A2 A x.length q.length c2 cc x q (fun _=>False) rfl rfl rfl rfl ho hs.out (fun b hb=>hb.elim) (by have:=hb2.out;omega) hbs ?_;intro A3 c3 w3 ho3 hb3))
     rw[← E.out]at ho3
     go_roundw
     case rel=>
      have hl2:x.length+q.length=y.length:=by rw[E.out,Vx3]
      rw[hl2]
      rw[← hy.out]at ho3 ⊢
      exact⟨j+1,A3,c3,by omega,by go_num,rfl,ho3,hb.trans hb3⟩
     case measure=>simp[intOf];omega
    ·obtain rfl:j=l.length:=by omega
     rw[List.take_length,hres.out]at ho ⊢
     go_wp2
     go_ret
     exact⟨A2,c2,rfl,ho,hb⟩
end Go.Proofs.YtimaoonpgilekaaDoor
