import Derived.Test.YtimaoonpgilekaaDoorShaR
set_option maxRecDepth 100000
set_option linter.all false
set_option maxHeartbeats 800000
namespace Go.Proofs.YtimaoonpgilekaaDoor
open Go.RowKit
theorem Zb9(n:Nat)(size:Nat)(w:World)(h1:1≤size)(h8:size≤8)(hn:n<18446744073709551616):
  Calls Tryd.prog 69 #[.int .u64 (n:Int),.int .i64 (size:Int)] w fun e w'=>∃A c,e=.returned (.tuple #[.slice A size c,.bool (decide (n<256 ^ size))])∧Own 5 w' w.heap.size A c (be size n)∧Below w.heap.size w w':=by
 obtain⟨i0,hi0,hz0,hz1,hz2⟩:=info_parts Zfs
 go_enter Tryd.func69,Tryd.ntmps69
 go_wp2_with (at_make;refine wpList_make_full _ rfl _ _ 68 rfl w.heap.size 5 i0 (.int .u8 0) 1 Tryd.underlying68 hi0 hz0 hz1 _ _ _ _ size rfl rfl rfl rfl (by rw[hz2];omega) (by unfold maxLen;omega) (Vx8 _) ?_;intro w1 hown1 hgrow1)
 go_loopw [0,7] (fun v i wr=>∃k:Nat,k≤size∧i=.int .i64 ((size:Int)-k-1)∧v=.int .u64 ((n / 256 ^ k:Nat):Int)∧Below w.heap.size w wr∧wr.heap[w.heap.size]? =some (.cells ((dcells n size k).map bv).toArray 5 (0,0))) (fun _ i _=>(intOf i+1).toNat)
 case atStart=>
  refine⟨0,Nat.zero_le _,by go_num,by simp,(Below.refl _ _).grown hgrow1 (Vx8 _) (by simp),?_⟩
  rw[Zje]
  exact Zbr hown1
 case round=>
  obtain⟨k,hk,rfl,rfl,hb,hg⟩:=hrel
  by_cases hlt:k<size
  ·have hc:=Zcy hg (size-k-1) (by rw[ZkK _ _ _ hk];omega)
   have hf:=Zap hg (size-k-1)
   have hqn:n / 256 ^ k<18446744073709551616:=Nat.lt_of_le_of_lt (Nat.div_le_self _ _) hn
   have e3:=hid (show n / 256 ^ (k+1)=n / 256 ^ k / 256 by rw[Nat.pow_succ,Nat.div_div_eq_div_mul])
   have e4:=hid (Zjd n size k hlt)
   have e5:=hid (show size-k-1=size-1-k by omega)
   generalize n / 256 ^ k=q at *
   go_wp2
   go_roundw
   case rel=>
    refine⟨k+1,by omega,by go_num,?_,hb.setCell (Vx8 _) _,?_⟩
    ·rw[e3.out]
     go_num
    ·rw[← e4.out,e5.out,show Value.int .u8 ((q:Int) % 256)=bv (UInt8.ofNat (q % 256)) from by unfold bv;congr 1;simp]
     exact Zdd hg _ _
   case measure=>simp[intOf];omega
  ·obtain rfl:k=size:=by omega
   rw[ZkJ]at hg
   have ht:(((n / 256 ^ k:Nat):Int)==0)=decide (n<256 ^ k):=by
    rw[Bool.eq_iff_iff,beq_iff_eq,decide_eq_true_iff]
    constructor
    ·intro h
     have h2:n / 256 ^ k=0:=by omega
     rcases Nat.div_eq_zero_iff.1 h2 with h3|h3
     ·have:=Nat.pow_pos (n:=k) (show 0<256 by omega);omega
     ·exact h3
    ·intro h
     rw[Nat.div_eq_of_lt h];rfl
   generalize n / 256 ^ k=q at *
   go_wp2
   go_ret2
   have ho:=Own.of_block (B:=w.heap.size) hg (Vx8 _) (by rw[Zav];unfold maxLen;omega)
   rw[Zav]at ho
   exact⟨_,_,rfl,ho,hb⟩
theorem ZeG(k:UInt8)(A:Option Addr)(c n:Nat)(ls:List (List UInt8))(w:World)(hr:Rds w A ls)(hn:n=ls.length)(hc:ls.length≤1000000)(hl:(tagB k ls).length≤1000000):
  Calls Tryd.prog 72 #[.int .u8 (k.toNat:Int),.slice A n c] w fun r w'=>∃A' c',r=.returned (.slice A' (tagB k ls).length c')∧Own 5 w' w.heap.size A' c' (tagB k ls)∧Below w.heap.size w w':=by
 subst hn
 have O0:Own 5 (w.alloc (.cells #[.int .u8 (k.toNat:Int)] 5)) w.heap.size (some ⟨w.heap.size,0,none⟩) 1 [k]:=Own.of_block (l:=[k]) (Vx0 w _) (Vx8 _) (show 1≤maxLen by decide)
 replace O0:=hid O0
 go_enter Tryd.func72,Tryd.ntmps72
 go_wp2
 go_loopw [5,6] (fun v i wr=>∃(j:Nat) (A':Option Addr) (c':Nat),j≤ls.length∧i=.int .i64 j∧v=.slice A' (tagB k (ls.take j)).length c'∧Own 5 wr w.heap.size A' c' (tagB k (ls.take j))∧Below w.heap.size w wr) (fun _ i _=>ls.length-(intOf i).toNat)
 case atStart=>exact⟨0,_,1,Nat.zero_le _,rfl,rfl,O0.out,Zad _ _⟩
 case round=>
  obtain⟨j,A',c',hj,rfl,rfl,ho,hb⟩:=hrel
  have hx:=ZlL k ls j
  have hx2:=ZlL k ls (j+1)
  by_cases hlt:j<ls.length
  ·as_aux_lemma=>
   obtain⟨b,o,rfl,hc2⟩:=hr (by omega)
   obtain⟨A2,c2,hcw,hr2,hl2,hm2⟩:=hc2 j _ (Vx9 hlt)
   have hbl0:=Vx5 _ _ hcw
   have hcell:=(hb.cell (p:=⟨b,o+j,none⟩) hbl0).trans hcw
   have E:=hid (ZnX k ls j hlt)
   rw[E.out,Vx3,Vx3]at hx2
   obtain⟨y,hy⟩:∃y,y=tagB k (ls.take (j+1)):=⟨_,rfl⟩
   rw[← hy]at E
   replace hy:=hid hy
   generalize tagB k (ls.take j)=x at *
   generalize ls[j]=z at *
   obtain⟨m,hm⟩:∃m,m=z.length % 4294967296:=⟨_,rfl⟩
   rw[← hm]at E hx2
   have hmz:(z.length:Int) % 4294967296=(m:Int):=by omega
   have hml:m<4294967296:=by omega
   have hbl:=Zav 4 m
   rw[hbl]at hx2
   obtain⟨d,hd⟩:∃d,d=be 4 m:=⟨_,rfl⟩
   rw[← hd]at E hbl
   obtain⟨xd,hxd⟩:∃xd,xd=x++d:=⟨_,rfl⟩
   rw[← hxd]at E
   have lxd:xd.length=x.length+4:=by rw[hxd,Vx3,hbl]
   replace lxd:=hid lxd
   replace hxd:=hid hxd
   replace hd:=hid hd
   replace hm:=hid hm
   replace hbl:=hid hbl
   have j1:(j:Int)<ls.length:=by omega
   replace hc2:=trivial
   have Ho:=hid ho
   have Hb:=hid hb
   have Hr:=hid hr2
   unfold maxLen at hm2
   clear ho hb hr2 hr
   go_wp2_with fail
   refine(Zb9 m 4 wr (by decide) (by decide) (by omega)).mono ?_
   rintro e w3 ⟨A3,c3,rfl,ho3,hb3⟩
   rw[← hd.out]at ho3
   have Ho3:=hid ho3
   have Hx:=hid (Ho.out.bel hb3)
   have hc3:=(hb3.cell (p:=⟨b,o+j,none⟩) (Vx5 _ _ hcell)).trans hcell
   have B3:=hid (Hb.out.trans (hb3.mono Hb.out.size))
   have S3:=hid hb3
   clear ho3 hb3
   replace hcell:=trivial
   go_wp2_with (first
    |(at_builtin;refine ZaO u8s rfl (.tmp 28) (.tmp 29) rfl w.heap.size A' A3 x.length 4 c' c3 x d rfl rfl rfl hbl.out.symm Hx.out Ho3.out.rd (by rw[hbl.out];omega) B3.out.size ?_;intro A4 c4 w4 ho4 hb4;rw[← hxd.out]at ho4 ⊢;have Ho4:=hid ho4;have B4:=hid (B3.out.trans hb4);have hc4:=(B4.out.cell (p:=⟨b,o+j,none⟩) hbl0).trans hcw;clear ho4 hb4)
    |(at_builtin;refine ZaO u8s rfl (.tmp 31) (.tmp 35) rfl w.heap.size A4 A2 xd.length z.length c4 c2 xd z rfl rfl rfl rfl Ho4.out (Hr.out.bel B4.out) (by have:=lxd.out;omega) B4.out.size ?_;intro A5 c5 w5 ho5 hb5;rw[← E.out]at ho5 ⊢;have Ho5:=hid ho5;have B5:=hid (B4.out.trans hb5);clear ho5 hb5))
   go_roundw
   case rel=>exact⟨j+1,A5,c5,by omega,by go_num,by rw[← hy.out],by rw[← hy.out];exact Ho5.out,B5.out⟩
   case measure=>simp[intOf];omega
  ·as_aux_lemma=>
   obtain rfl:j=ls.length:=by omega
   rw[List.take_length]at ho ⊢
   have Ho:=hid ho
   clear ho
   go_wp2_with fail
   go_ret
   exact⟨_,_,rfl,Ho.out,hb⟩
theorem Zpa(k:UInt8)(A:Option Addr)(c n:Nat)(ls:List (List UInt8))(w:World)(hr:Rds w A ls)(hn:n=ls.length)(hc:ls.length≤1000000)(hl:(tagB k ls).length≤100000):
  Calls Tryd.prog 68 #[.int .u8 (k.toNat:Int),.slice A n c] w fun r w'=>r=.returned (.agg ((sha256 (tagB k ls)).map bv).toArray)∧Below w.heap.size w w':=by
 subst hn
 obtain⟨dg,hdg⟩:∃dg,dg=sha256 (tagB k ls):=⟨_,rfl⟩
 rw[← hdg]
 have ld:dg.length=32:=by rw[hdg];exact S8.bytes_len _
 have z1:((dg.map bv).toArray).size=32:=by simp[ld]
 have o1:=Zay dg
 replace hdg:=hid hdg
 have hr1:=hr.alloc (.cells z32 23)
 go_enter Tryd.func68,Tryd.ntmps68
 go_wp2_with ((with_reducible refine Zac rfl 23 rfl z32 Zam ?_))
 refine(ZeG k A c _ ls _ hr1 rfl hc (by omega)).mono ?_
 rintro e w2 ⟨A2,c2,rfl,ho2,hb2⟩
 have R2:=hid ((hb2.block w.heap.size (by simp)).trans (Vx0 w (.cells z32 23)))
 have W2:=hid (Zag (Zad w _) hb2)
 have r2:=hid ho2.rd
 clear ho2 hb2
 go_wp2_with fail
 refine(ZmG A2 c2 _ (tagB k ls) _ r2.out rfl (by omega)).mono ?_
 rintro e w3 ⟨rfl,hb3⟩
 rw[← hdg.out]
 have R3:=hid ((hb3.block _ (block_lt R2.out)).trans R2.out)
 have W3:=hid (Zag W2.out hb3)
 clear hb3
 go_wp2_with (((with_reducible refine stW 4 8 w.heap.size 23 z32 ?_ ?_ ?_ ?_ ?_);exact R3.out;(rw[z1];exact Zai);(rw[z1];exact z32_size);exact o1;intro w4 hg4 hb4 hs4))
 refine Vy0 (v:=.agg ((dg.map bv).toArray)) ?_ rfl ⟨rfl,?_⟩
 ·exact results_cell_row Tryd.results68 _ _ w.heap.size 23 _ (0,0) _ rfl hg4 Tryd.underlying23 rfl (by rw[z1];exact Zai)
 ·exact W3.out.grown hb4 W3.out.size (by simp)
theorem Ze5(k:UInt8)(A:Option Addr)(c:Nat)(l:List UInt8)(w:World)(h1:Rd w A l)(d1:l.length≤c∧c≤maxLen)(hl:l.length≤5000):
  Calls Tryd.prog 61 #[.int .u8 (k.toNat:Int),.slice A l.length c] w fun r w'=>r=.returned (.agg ((sha256 (tagB k [l])).map bv).toArray)∧Below w.heap.size w w':=by
 have ht:(tagB k [l]).length≤100000:=by simp[tagB,partB,Zav];omega
 have ho:=fun W hW=>Zpa k (some ⟨w.heap.size+1,0,none⟩) 1 1 [l] W hW rfl (by simp) ht
 obtain⟨dg,hdg⟩:∃dg,dg=sha256 (tagB k [l]):=⟨_,rfl⟩
 rw[← hdg]at ho ⊢
 have ld:dg.length=32:=by rw[hdg];exact S8.bytes_len _
 have z1:((dg.map bv).toArray).size=32:=by simp[ld]
 have o1:=Zay dg
 have hR:=ZgF (w.alloc (.cells z32 23)) A c l 68 (h1.bel (Zad _ _)) d1
 rw[Vx2]at hR
 have R1:=(Zad (w.alloc (.cells z32 23)) (.cells [Value.slice A l.length c].toArray 68)).block w.heap.size (by simp)
 replace R1:=hid (R1.trans (Vx0 w (.cells z32 23)))
 have W1:=hid (Zag (Zad w (.cells z32 23)) (Zad (w.alloc (.cells z32 23)) (.cells [Value.slice A l.length c].toArray 68)))
 replace hdg:=trivial
 replace ho:=hid ho
 replace hR:=hid hR
 clear h1 d1 hl ht
 go_enter Tryd.func61,Tryd.ntmps61
 go_wp2_with ((with_reducible refine Zac rfl 23 rfl z32 Zam ?_))
 refine(ho.out _ hR.out).mono ?_
 rintro e w3 ⟨rfl,hb3⟩
 have R3:=hid ((hb3.block _ (block_lt R1.out)).trans R1.out)
 have W3:=hid (Zag W1.out hb3)
 clear hb3
 go_wp2_with (((with_reducible refine stW 4 8 w.heap.size 23 z32 ?_ ?_ ?_ ?_ ?_);exact R3.out;(rw[z1];exact Zai);(rw[z1];exact z32_size);exact o1;intro w4 hg4 hb4 hs4))
 refine Vy0 (v:=.agg ((dg.map bv).toArray)) ?_ rfl ⟨rfl,?_⟩
 ·exact results_cell_row Tryd.results61 _ _ w.heap.size 23 _ (0,0) _ rfl hg4 Tryd.underlying23 rfl (by rw[z1];exact Zai)
 ·exact W3.out.grown hb4 W3.out.size (by simp)
end Go.Proofs.YtimaoonpgilekaaDoor
