import Derived.Test.YtomhoehlgagiiaaGreatDoorRefC
import Derived.Test.YtomhoehlgagiiaaGreatDoorRefE
set_option maxRecDepth 100000
set_option linter.all false
set_option maxHeartbeats 4000000
namespace Go.Proofs.YtomhoehlgagiiaaGreatDoor
open Go.RowKit
theorem Zse(a:Addr)(w:World):(Instr.sliceAt 26 (.pointer (some a)) none none none).run Tryz.prog w=.ok (.slice (some a) 32 32) w:=by
 have hu:=Tryz.underlying26
 have h:=run_sliceAt_array_all (P:=Tryz.prog) w 26 a (by rw[hu];rfl)
 rw[h]
 rfl
theorem Yhz(k:Dg)(x:Value):(Tryz.prog.info? 84).map (·.size)=some (k.1.map bv++[x]).length:=by
 have h:=slotPr.info
 rw[Zbq]
 cases hi:Tryz.prog.info? 84 with
 |none=>rw[hi]at h;cases h
 |some i=>
  rw[hi]at h
  simp at h
  simp[h.2.1]
theorem rd_key{w:World}{b o:Nat}{k:Dg}(h:w.rangeAt b o (k.1.map bv)):Rd w (some ⟨b,o,none⟩) k.1:=fun _=>⟨b,o,rfl,fun j x hx=>h j (bv x) (by rw[List.getElem?_map,hx];rfl)⟩
theorem Ybw(k:UInt8){l m:List UInt8}(hl:l.length≤64)(hm:m.length≤64):(tagB k [l,m]).length≤100000:=by
 have h:=Zhu k [l,m] 64 (by intro x hx;simp at hx;rcases hx with rfl|rfl<;>assumption)
 simp only[List.length_cons,List.length_nil]at h
 omega
theorem ZxY(d:Nat)(A:Option Addr)(c:Nat)(w:World):
  Calls Tryz.prog 146 #[.slice A 0 c,.int .i64 (d:Int)] w fun e w'=>e=.returned (.agg ((sha256 (tagB 0 [])).map bv).toArray)∧Below w.heap.size w w':=by
 have hN:=fun W=>Zmz W
 obtain⟨dg,hdg⟩:∃dg,dg=sha256 (tagB 0 []):=⟨_,rfl⟩
 have hdg0:sha256 [0]=dg:=hdg.symm
 rw[hdg0]at hN
 rw[← hdg]
 have ld:dg.length=32:=by rw[hdg];exact S8.bytes_len _
 have z1:((dg.map bv).toArray).size=32:=by simp[ld]
 have o1:=Zay dg
 clear hdg hdg0
 replace hN:=hid hN
 have hz:=hid (Vx0 w (.cells z32 26))
 have W1:=hid (Zad w (.cells z32 26))
 go_enter Tryz.func146,Tryz.ntmps146
 go_wp2_with ((with_reducible refine Zac rfl 26 rfl z32 Zam ?_))
 refine(hN.out _).mono ?_
 rintro e w3 ⟨rfl,hb3⟩
 have R3:=hid ((hb3.block _ (block_lt hz.out)).trans hz.out)
 have W3:=hid (Zag W1.out hb3)
 clear hb3
 go_wp2_with (((with_reducible refine stW 4 13 w.heap.size 26 z32 ?_ ?_ ?_ ?_ ?_);exact R3.out;(rw[z1];exact Zai);(rw[z1];exact z32_size);exact o1;intro w4 hg4 hb4 hs4))
 refine Vy0 (v:=.agg ((dg.map bv).toArray)) ?_ rfl ⟨rfl,?_⟩
 ·exact results_cell_row Tryz.results146 _ _ w.heap.size 26 _ (0,0) _ rfl hg4 Tryz.underlying26 rfl (by rw[z1];exact Zai)
 ·exact W3.out.grown hb4 W3.out.size (by simp)
theorem ZxZ(d:Nat)(p:Pr)(F:Nat→Prop)(A:Option Addr)(c:Nat)(w:World)(hr:Row F w A [p])(hv:p.v.length≤64):
  Calls Tryz.prog 146 #[.slice A 1 c,.int .i64 (d:Int)] w fun e w'=>e=.returned (.agg ((sha256 (tagB 1 [p.k.1,p.v])).map bv).toArray)∧Below w.heap.size w w':=by
 obtain⟨b,o,rfl,r1,A',c',hcell,-,h1,h2,h3⟩:=ZcO hr (j:=0) (by simp)
 simp only[Nat.zero_mul,Nat.add_zero,List.getElem_cons_zero]at r1 hcell h1 h3
 obtain⟨k,v⟩:=p
 simp only at *
 have hk:=rd_key r1
 have hkl:=k.2
 have hT:=fun W hW hV=>ZjB 1 (some ⟨b,o,none⟩) A' 32 c' k.1 v W hW hV ⟨by omega,by unfold maxLen;omega⟩ ⟨h1,h2⟩ (Ybw 1 (by omega) hv)
 rw[hkl]at hT
 obtain⟨dg,hdg⟩:∃dg,dg=sha256 (tagB 1 [k.1,v]):=⟨_,rfl⟩
 rw[← hdg]at hT ⊢
 have ld:dg.length=32:=by rw[hdg];exact S8.bytes_len _
 have z1:((dg.map bv).toArray).size=32:=by simp[ld]
 have o1:=Zay dg
 clear hdg
 have b1:=Zad w (.cells z32 26)
 have hz:=hid (Vx0 w (.cells z32 26))
 have W1:=hid b1
 have hk1:=hid (hk.bel b1)
 have hv1:=hid (h3.rd.bel b1)
 have hc1:=(b1.cell (Vx5 _ _ hcell)).trans hcell
 have hsl:=Zse
 replace hT:=hid hT
 clear hr hk h3 hcell r1 b1
 go_enter Tryz.func146,Tryz.ntmps146
 go_wp2_with ((with_reducible refine Zac rfl 26 rfl z32 Zam ?_))
 generalize hw1:w.alloc (.cells z32 26)=w1 at *
 go_still_tail 8,(by kernel_rfl)
 have hk2:=hk1.out.bel (Zao w1)
 have hv2:=hv1.out.bel (Zao w1)
 go_wp2_with fail
 refine(hT.out _ hk2 hv2).mono ?_
 rintro e w3 ⟨rfl,hb3⟩
 have hb4:=(Zao w1).trans hb3
 have R3:=hid ((hb4.block _ (block_lt hz.out)).trans hz.out)
 have W3:=hid (Zag W1.out hb4)
 clear hb3 hb4
 go_wp2_with (((with_reducible refine stW 4 25 w.heap.size 26 z32 ?_ ?_ ?_ ?_ ?_);exact R3.out;(rw[z1];exact Zai);(rw[z1];exact z32_size);exact o1;intro w4 hg4 hb4 hs4))
 refine Vy0 (v:=.agg ((dg.map bv).toArray)) ?_ rfl ⟨rfl,?_⟩
 ·exact results_cell_row Tryz.results146 _ _ w.heap.size 26 _ (0,0) _ rfl hg4 Tryz.underlying26 rfl (by rw[z1];exact Zai)
 ·exact W3.out.grown hb4 W3.out.size (by simp)
theorem ZxE{d:Nat}{ps:List Pr}{j:Nat}(hj:j<ps.length):zeros d (ps.take (j+1))=zeros d (ps.take j)++(if oneP d ps[j]=true then [] else [ps[j]]):=by
 unfold zeros
 rw[Vy5 hj,List.filter_append]
 congr 1
 by_cases h:oneP d ps[j]=true<;>simp[h]
theorem Yai{d:Nat}{ps:List Pr}{j:Nat}(hj:j<ps.length):ones d (ps.take (j+1))=ones d (ps.take j)++(if oneP d ps[j]=true then [ps[j]] else []):=by
 unfold ones
 rw[Vy5 hj,List.filter_append]
 congr 1
 by_cases h:oneP d ps[j]=true<;>simp[h]
theorem YiG{d:Nat}{p:Pr}(b:Bool)(h:oneP d p=b):kb p.k.1 d=if b=true then 1 else 0:=by
 subst h
 unfold oneP
 have:=Zeu p.k.1 d
 by_cases h:kb p.k.1 d=1
 ·simp[h]
 ·simp[h];omega
theorem Zvc{w:World}{g:Nat}{l:List UInt8}{t:TypeId}(h:w.heap[g]? =some (.cells (l.map bv).toArray t (0,0))):Rd w (some ⟨g,0,none⟩) l:=fun _=>⟨g,0,rfl,fun j x hx=>by
 rw[cell_of_row w g (0+j) _ t (0,0) h,Nat.zero_add,List.getElem?_toArray,List.getElem?_map,hx];rfl⟩
theorem Ycb(n d:Nat)(ps:List Pr)(F:Nat→Prop)(A:Option Addr)(c:Nat)(w:World)(hd:d<256)(h2:2≤ps.length)(hc:ps.length≤1000)(hr:Row F w A ps)
  (ih0:∀(F:Nat→Prop) (A:Option Addr) (c:Nat) (w:World),Row F w A (zeros d ps)→Calls Tryz.prog 146 #[.slice A (zeros d ps).length c,.int .i64 ((d:Int)+1)] w fun e w'=>e=.returned (.agg ((rootP n (zeros d ps) (d+1)).map bv).toArray)∧Below w.heap.size w w')
  (ih1:∀(F:Nat→Prop) (A:Option Addr) (c:Nat) (w:World),Row F w A (ones d ps)→Calls Tryz.prog 146 #[.slice A (ones d ps).length c,.int .i64 ((d:Int)+1)] w fun e w'=>e=.returned (.agg ((rootP n (ones d ps) (d+1)).map bv).toArray)∧Below w.heap.size w w'):
  Calls Tryz.prog 146 #[.slice A ps.length c,.int .i64 (d:Int)] w fun e w'=>e=.returned (.agg ((rootP (n+1) ps d).map bv).toArray)∧Below w.heap.size w w':=by
 have hu:=Tryz.underlying26
 have hu2:=Tryz.underlying84
 rw[Zla n d h2]
 have l0:=Zem n (d+1) (zeros d ps)
 have l1:=Zem n (d+1) (ones d ps)
 generalize rootP n (zeros d ps) (d+1)=g0 at *
 generalize rootP n (ones d ps) (d+1)=g1 at *
 have hT:=fun W p q hW hV=>ZjB 2 (some ⟨p,0,none⟩) (some ⟨q,0,none⟩) 32 32 g0 g1 W hW hV ⟨by omega,by unfold maxLen;omega⟩ ⟨by omega,by unfold maxLen;omega⟩ (Ybw 2 (by omega) (by omega))
 rw[l0,l1]at hT
 obtain⟨dg,hdg⟩:∃dg,dg=sha256 (tagB 2 [g0,g1]):=⟨_,rfl⟩
 rw[← hdg]at hT ⊢
 have ld:dg.length=32:=by rw[hdg];exact S8.bytes_len _
 have z1:((dg.map bv).toArray).size=32:=by simp[ld]
 have o1:=Zay dg
 have y0:((g0.map bv).toArray).size=32:=by simp[l0]
 have p0:=Zay g0
 have y1:((g1.map bv).toArray).size=32:=by simp[l1]
 have p1:=Zay g1
 clear hdg
 have b1:=Zad w (.cells z32 26)
 have hz:=hid (Vx0 w (.cells z32 26))
 have W1:=hid b1
 have hr0:=hr.bel b1
 have hF0:∀b,F b→True:=fun _ _=>trivial
 have hsl:=Zse
 replace hT:=hid hT
 replace ih0:=hid ih0
 replace ih1:=hid ih1
 clear hr hF0 b1
 have hne0:¬(ps.length=0):=by omega
 have hne1:¬(ps.length=1):=by omega
 go_enter Tryz.func146,Tryz.ntmps146
 go_wp2_with ((with_reducible refine Zac rfl 26 rfl z32 Zam ?_))
 generalize hw1:w.alloc (.cells z32 26)=w1 at *
 have hr1:Row (fun b=>b<w1.heap.size) w1 A ps:=hr0.mono fun b _ hl=>hl
 clear hr0
 replace hne0:=hid hne0
 replace hne1:=hid hne1
 replace h2:=hid h2
 have hb0:((ps.length:Int)==0)=false:=beq_false_of_ne (by have:=h2.out;omega)
 have hb1:((ps.length:Int)==1)=false:=beq_false_of_ne (by have:=h2.out;omega)
 simp only[hb0,hb1]
 clear hb0 hb1
 go_loopw [5,6,7] (fun va vb i wr=>∃(j:Nat) (A5 A6:Option Addr) (c5 c6:Nat),j≤ps.length∧i=.int .i64 j∧va=.slice A5 (zeros d (ps.take j)).length c5∧vb=.slice A6 (ones d (ps.take j)).length c6∧RowO 84 (fun b=>b<w1.heap.size) wr w1.heap.size A5 c5 (zeros d (ps.take j))∧RowO 84 (fun b=>b<w1.heap.size) wr w1.heap.size A6 c6 (ones d (ps.take j))∧Apart A5 A6∧Below w1.heap.size w1 wr) (fun _ _ i _=>ps.length-(intOf i).toNat)
 case atStart=>exact⟨0,none,none,0,0,Nat.zero_le _,rfl,rfl,rfl,RowO.nil _ _ _,RowO.nil _ _ _,Zwg _,Below.refl _ _⟩
 case round=>
  obtain⟨j,A5,A6,c5,c6,hj,rfl,rfl,rfl,q5,q6,hap,hb⟩:=hrel
  have hx5:(zeros d (ps.take j)).length≤1000:=Vx1 (List.length_filter_le _ _) (by rw[List.length_take];omega)
  have hx6:(ones d (ps.take j)).length≤1000:=Vx1 (List.length_filter_le _ _) (by rw[List.length_take];omega)
  have hbs:=hb.size
  by_cases hlt:j<ps.length
  ·obtain⟨b,o,hA,r1,A',c',hcell,r2,h1,h2',h3⟩:=ZcO (hr1.bel hb) hlt
   subst hA
   have R3:Enc.rep (fun b=>b<w1.heap.size) wr (⟨ps[j].k,ps[j].v⟩:Pr) _:=ZcL ps[j].k ps[j].v A' c' h1 h2' h3
   obtain⟨ob,hob⟩:∃ob,oneP d ps[j]=ob:=⟨_,rfl⟩
   have hAt:=fun W=>ZiL ps[j].k.1 d W ps[j].k.2 hd
   rw[YiG ob hob]at hAt
   have Z5:=hid (ZxE (d:=d) hlt)
   have Z6:=hid (Yai (d:=d) hlt)
   rw[hob,show ps[j]=(⟨ps[j].k,ps[j].v⟩:Pr) from rfl]at Z5 Z6
   have hs:=hid (Yhz ps[j].k (.slice A' ps[j].v.length c'))
   have hi:=hid (ZaF ps[j].k)
   clear hob h3 hcell hr1
   have hsz5:(zeros d (ps.take (j+1))).length=(zeros d (ps.take (j+1))).length:=rfl
   clear hsz5
   generalize hx2:zeros d (ps.take (j+1))=x2 at *
   generalize hy2:ones d (ps.take (j+1))=y2 at *
   replace hx2:=hid hx2
   replace hy2:=hid hy2
   generalize zeros d (ps.take j)=x at *
   generalize ones d (ps.take j)=y at *
   generalize ps[j].k=kq at *
   generalize ps[j].v=v at *
   have ds0:∀W,Calls Tryz.prog 212 #[.agg (kq.1.map bv).toArray,.int .i64 (d:Int)] W fun r w'=>r=.returned (.int .u8 ((if ob=true then 1 else 0:Nat):Int))∧Below W.heap.size W w':=hAt
   clear hAt
   obtain⟨ds,hds⟩:∃ds,ds=kq.1.map bv:=⟨_,rfl⟩
   rw[← hds]at ds0 r1 hi
   replace hds:=hid hds
   replace ds0:=hid ds0
   go_wp2_with ((with_reducible refine lDr r1 hi.out hu ?_))
   refine(ds0.out _).mono ?_
   rintro e w5 ⟨rfl,hb5⟩
   replace r2:=Zab hb5 r2
   replace q5:=q5.bel hb5
   replace q6:=q6.bel hb5
   replace R3:=Enc.kept R3 (fun b _ hl=>hb5.block b hl)
   have B5:=hb.trans (hb5.mono hbs)
   replace hbs:w1.heap.size≤w5.heap.size:=Vx1 hbs hb5.size
   clear hb hb5 r1 ds0 hi
   cases ob
   ·have Z5o:x2=x++[⟨kq,v⟩]:=Z5.out
    have Z6o:y2=y++[]:=Z6.out
    rw[List.append_nil]at Z6o
    replace Z5:=hid Z5o
    replace Z6:=hid Z6o
    clear Z5o Z6o
    go_wp2_with (first
     |(with_reducible refine lDr r2 hs.out hu2 ?_)
     |((with_reducible refine ZaC slotPr (by decide) rfl (.tmp 44) rfl (kq.1.map bv++[.slice A' v.length c']) ?_ (Zbq kq _) ?_);rfl)
     |(at_builtin;refine ZlM slotPr rfl (.tmp 40) (.tmp 45) rfl (fun b=>b<w1.heap.size) _ x.length 1 1 (xs:=x) (ys:=[⟨kq,v⟩]) (zs:=y) rfl rfl rfl rfl (q5.alloc _) (q6.alloc _) hap (ZaE R3) (fun b hb=>hb) (by simp;omega) (by rw[Vx2];omega) ?_;intro A7 c7 w7 n5 n6 nap hB7))
    go_roundw
    case rel=>
     have hl:x.length+1=x2.length:=by rw[Z5.out];simp
     obtain rfl:y2=y:=Z6.out
     rw[hl]
     rw[← Z5.out]at n5
     rw[← hx2.out]at n5 ⊢
     rw[← hy2.out]at n6 ⊢
     exact⟨j+1,A7,A6,c7,c6,by omega,by go_num,rfl,rfl,n5,n6,nap,(B5.trans ((Zad w5 _).mono hbs)).trans hB7⟩
    case measure=>simp[intOf];omega
   ·have Z5o:x2=x++[]:=Z5.out
    have Z6o:y2=y++[⟨kq,v⟩]:=Z6.out
    rw[List.append_nil]at Z5o
    replace Z5:=hid Z5o
    replace Z6:=hid Z6o
    clear Z5o Z6o
    go_wp2_with (first
     |(with_reducible refine lDr r2 hs.out hu2 ?_)
     |((with_reducible refine ZaC slotPr (by decide) rfl (.tmp 51) rfl (kq.1.map bv++[.slice A' v.length c']) ?_ (Zbq kq _) ?_);rfl)
     |(at_builtin;refine ZlM slotPr rfl (.tmp 47) (.tmp 52) rfl (fun b=>b<w1.heap.size) _ y.length 1 1 (xs:=y) (ys:=[⟨kq,v⟩]) (zs:=x) rfl rfl rfl rfl (q6.alloc _) (q5.alloc _) hap.symm (ZaE R3) (fun b hb=>hb) (by simp;omega) (by rw[Vx2];omega) ?_;intro A7 c7 w7 n5 n6 nap hB7))
    go_roundw
    case rel=>
     have hl:y.length+1=y2.length:=by rw[Z6.out];simp
     obtain rfl:x2=x:=Z5.out
     rw[hl]
     rw[← Z6.out]at n5
     rw[← hy2.out]at n5 ⊢
     rw[← hx2.out]at n6 ⊢
     exact⟨j+1,A5,A7,c5,c7,by omega,by go_num,rfl,rfl,n6,n5,nap.symm,(B5.trans ((Zad w5 _).mono hbs)).trans hB7⟩
    case measure=>simp[intOf];omega
  ·obtain rfl:j=ps.length:=by omega
   rw[List.take_length]at q5 q6 hx5 hx6 ⊢
   generalize zeros d ps=x at *
   generalize ones d ps=y at *
   have z5:=hid q5.row
   have z6:=hid q6.row
   have hz2:=hid ((hb.block _ (block_lt hz.out)).trans hz.out)
   have W2:=hid (W1.out.trans (hb.mono W1.out.size))
   clear q5 q6 hb hr1 hx5 hx6
   go_wp2_with fail
   refine(ih0.out _ _ _ _ z5.out).mono ?_
   rintro e w5 ⟨rfl,hb5⟩
   replace hz2:=hid ((hb5.block _ (block_lt hz2.out)).trans hz2.out)
   replace W2:=hid (W2.out.trans (hb5.mono W2.out.size))
   replace z6:=hid (z6.out.bel hb5)
   clear hb5 z5 ih0
   go_wp2_with fail
   refine(ih1.out _ _ _ _ z6.out).mono ?_
   rintro e w6 ⟨rfl,hb6⟩
   replace hz2:=hid ((hb6.block _ (block_lt hz2.out)).trans hz2.out)
   replace W2:=hid (W2.out.trans (hb6.mono W2.out.size))
   clear hb6 z6 ih1
   have b7:=Zag (Zad w6 (.cells z32 26)) (Zad (w6.alloc (.cells z32 26)) (.cells z32 26))
   have e0:=((Zad (w6.alloc (.cells z32 26)) (.cells z32 26)).block w6.heap.size (by simp)).trans (Vx0 w6 (.cells z32 26))
   have e1:=Vx0 (w6.alloc (.cells z32 26)) (.cells z32 26)
   have sz7:=hid (Vx2 w6 (.cells z32 26))
   have hlt0:=hid (block_lt hz2.out)
   have k1:w.heap.size<w6.heap.size:=hlt0.out
   have z8:((w6.alloc (.cells z32 26)).alloc (.cells z32 26)).heap.size=w6.heap.size+1+1:=by rw[Vx2,Vx2]
   replace z8:=hid z8
   replace hz2:=hid ((b7.block _ (block_lt hz2.out)).trans hz2.out)
   replace W2:=hid (W2.out.trans (b7.mono W2.out.size))
   clear b7
   generalize hw7:(w6.alloc (.cells z32 26)).alloc (.cells z32 26)=w7 at *
   go_wp2_with (first
    |(with_reducible refine Zac rfl 26 rfl z32 Zam ?_)
    |((with_reducible refine stW 8 57 w6.heap.size 26 z32 ?_ ?_ ?_ ?_ ?_);(rw[hw7];exact e0);(rw[y0];exact Zai);(rw[y0];exact z32_size);exact p0;rw[hw7];intro w8 hg8 hb8 hs8;refine wpList_store_row rfl 26 (.tmp 9) (.tmp 61) rfl _ _ rfl rfl 26 z32 ?_ ?_ ?_ ?_ ?_;exact(hb8.block _ (by have:=z8.out;have:=sz7.out;omega) (by rw[sz7.out];simp)).trans e1;(rw[y1];exact Zai);(rw[y1];exact z32_size);exact p1;intro w9 hg9 hb9 hs9;rw[sz7.out]at hg9 hb9))
   have D0:=hid (Zvc ((hb9.block w6.heap.size (by have:=z8.out;omega) (by simp)).trans hg8))
   have D1:=hid (Zvc hg9)
   have hne:w.heap.size≠w6.heap.size:=by omega
   have hne2:w.heap.size≠w6.heap.size+1:=by omega
   replace hz2:=hid ((hb9.block w.heap.size (by have:=z8.out;omega) (by simpa using hne2)).trans ((hb8.block w.heap.size (by have:=z8.out;omega) (by simpa using hne)).trans hz2.out))
   replace W2:=hid ((W2.out.grown hb8 W2.out.size (by intro k hk;injection hk with hk;omega)).grown hb9 (Vx1 W2.out.size hb8.size) (by intro k hk;injection hk with hk;omega))
   clear hg8 hb8 hs8 hg9 hb9 hs9 e0 e1 hw7
   go_still_tail 2,(by kernel_rfl)
   have D2:=D0.out.bel (Zao w9)
   have D3:=D1.out.bel (Zao w9)
   go_wp2_with fail
   refine(hT.out _ _ _ D2 D3).mono ?_
   rintro e w10 ⟨rfl,hb10⟩
   have hb11:=(Zao w9).trans hb10
   have R3:=hid ((hb11.block _ (block_lt hz2.out)).trans hz2.out)
   have W3:=hid (W2.out.trans (hb11.mono W2.out.size))
   clear hb10 hb11
   go_wp2_with (((with_reducible refine stW 4 64 w.heap.size 26 z32 ?_ ?_ ?_ ?_ ?_);exact R3.out;(rw[z1];exact Zai);(rw[z1];exact z32_size);exact o1;intro w12 hg4 hb4 hs4))
   refine Vy0 (v:=.agg ((dg.map bv).toArray)) ?_ rfl ⟨rfl,?_⟩
   ·exact results_cell_row Tryz.results146 _ _ w.heap.size 26 _ (0,0) _ rfl hg4 Tryz.underlying26 rfl (by rw[z1];exact Zai)
   ·exact W3.out.grown hb4 W3.out.size (by simp)
theorem ZrB(d:Nat)(ps:List Pr):(zeros d ps).length≤ps.length:=List.length_filter_le _ _
theorem ZuT(d:Nat)(ps:List Pr):(ones d ps).length≤ps.length:=List.length_filter_le _ _
theorem Zo9:∀(n d:Nat) (ps:List Pr) (F:Nat→Prop) (A:Option Addr) (c:Nat) (w:World),n+d=256→Srt ps→Shr d ps→ps.length≤1000→(∀ p∈ps,p.v.length≤64)→Row F w A ps→
  Calls Tryz.prog 146 #[.slice A ps.length c,.int .i64 (d:Int)] w fun e w'=>e=.returned (.agg ((rootP n ps d).map bv).toArray)∧Below w.heap.size w w':=by
 intro n
 induction n with
 |zero=>
  intro d ps F A c w hn hs hh hc hv hr
  obtain rfl:d=256:=by omega
  have hf:=Zt3 hs hh
  match ps,hf,hv,hr with
  |[],_,_,_=>rw[Zf8];exact ZxY 256 A c w
  |[p],_,hv,hr=>rw[Zf9];exact ZxZ 256 p F A c w hr (hv p (by simp))
  |_::_::_,hf,_,_=>simp at hf
 |succ n ih=>
  intro d ps F A c w hn hs hh hc hv hr
  match ps,hs,hh,hc,hv,hr with
  |[],_,_,_,_,_=>rw[Zf8];exact ZxY d A c w
  |[p],_,_,_,hv,hr=>rw[Zf9];exact ZxZ d p F A c w hr (hv p (by simp))
  |p::q::r,hs,hh,hc,hv,hr=>
   exact Ycb n d (p::q::r) F A c w (by omega) (by simp) hc hr
    (fun F A c w hr=>ih (d+1) (zeros d (p::q::r)) F A c w (by omega) (Zsr hs) (Zsl hh) (Vx1 (ZrB d _) hc) (fun x hx=>hv x (List.mem_filter.1 hx).1) hr)
    (fun F A c w hr=>ih (d+1) (ones d (p::q::r)) F A c w (by omega) (ZvD hs) (Zvw hh) (Vx1 (ZuT d _) hc) (fun x hx=>hv x (List.mem_filter.1 hx).1) hr)
def rootE(ps:List Pr):Int:=if mayP ps=true then 0 else 8
def rootL(ps:List Pr):List UInt8:=if mayP ps=true then rootP 256 ps 0 else List.replicate 32 0
end Go.Proofs.YtomhoehlgagiiaaGreatDoor
