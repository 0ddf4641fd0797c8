import Derived.Test.YtomhoehlgagiiaaGreatDoorRefC
import Derived.Test.YtomhoehlgagiiaaGreatDoorRf6
import Derived.Test.YtomhoehlgagiiaaGreatDoorRefF
set_option maxRecDepth 100000
set_option linter.all false
set_option maxHeartbeats 2000000
namespace Go.Proofs.YtomhoehlgagiiaaGreatDoor
open Go.RowKit
theorem slotU8k:Slot Tryz.prog UInt8 57 5 (.int .u8 0) 1 where
 under:=Tryz.underlying57
 info:=by kernel_rfl
 zero:=by decide +kernel
 pos:=by decide
theorem Zgv{fn:Func}{p u:Tmp}(h:fn.results=#[.cell p 118,.tmp u])(tmps:Array Value)(w:World)(g:Nat)(a:Ac)(e1:tmps.getD p undef=.pointer (some ⟨g,0,none⟩))
  (hg:w.heap[g]? =some (.cells (acC a).toArray 118 (0,0))):(results fn tmps).run Tryz.prog w=.ok (.tuple #[.agg (acC a).toArray,tmps.getD u undef]) w:=by
 have h2:=run_loadVar_mid (P:=Tryz.prog) w g 0 118 (acC a) _ (Zae hg) Tryz.underlying118 rfl ZaM
 rw[results_cell_tmp h,e1]
 simp only[asAddr,Sem.run_pure,Result.andThen_ok,h2]
def keyD(p:Dg):Dg:=⟨sha256 (tagB 3 [p.1]),S8.bytes_len _⟩
theorem Zoc(p:Dg)(w:World):Calls Tryz.prog 248 #[.agg (p.1.map bv).toArray] w fun e w'=>e=.returned (.agg ((keyD p).1.map bv).toArray)∧Below w.heap.size w w':=by
 have h0:=Vx0 w (.cells (p.1.map bv).toArray 26)
 have b0:=Zad w (.cells (p.1.map bv).toArray 26)
 have h1:=Vx0 (w.alloc (.cells (p.1.map bv).toArray 26)) (.cells z32 26)
 have b1:=Zad (w.alloc (.cells (p.1.map bv).toArray 26)) (.cells z32 26)
 rw[Vx2]at h1
 have hk:=hid (Za4 ((b1.block _ (block_lt h0)).trans h0))
 have W1:=hid (b0.trans (b1.mono b0.size))
 replace h1:=hid h1
 have hO:=hid (fun W (h:Rd W (some ⟨w.heap.size,0,none⟩) p.1)=>Ze5 3 (some ⟨w.heap.size,0,none⟩) 32 p.1 W h ⟨by rw[p.2];decide,by decide⟩ (by rw[p.2];decide))
 have hD:sha256 (tagB 3 [p.1])=(keyD p).1:=rfl
 rw[hD]at hO
 simp only[p.2]at hO
 replace hO:=hid hO
 have hsl:=ZaA
 have z1:(((keyD p).1.map bv).toArray).size=32:=by simp[(keyD p).2]
 have o1:=Zay (keyD p).1
 clear h0 b0 b1 hD
 generalize (keyD p).1.map bv=dk at *
 generalize (p.1.map bv).toArray=dp at *
 go_enter Tryz.func248,Tryz.ntmps248
 go_wp2_with ((with_reducible refine Zac rfl 26 rfl z32 Zam ?_))
 refine(hO.out.out _ hk.out).mono ?_
 rintro e w3 ⟨rfl,hb3⟩
 have R3:=hid ((hb3.block _ (block_lt h1.out)).trans h1.out)
 have W3:=hid (W1.out.trans (hb3.mono W1.out.size))
 clear hb3
 go_wp2_with (((with_reducible refine stW 2 4 (w.heap.size+1) 26 z32 ?_ ?_ ?_ ?_ ?_);exact R3.out;(rw[z1];exact Zai);(rw[z1];exact z32_size);exact o1;intro w4 hg4 hb4 hs4))
 refine Vy0 (v:=.agg dk.toArray) ?_ rfl ⟨rfl,?_⟩
 ·exact results_cell_row Tryz.results248 _ _ (w.heap.size+1) 26 _ (0,0) _ rfl hg4 Tryz.underlying26 rfl (by rw[z1];exact Zai)
 ·exact W3.out.grown hb4 W3.out.size (fun g e=>by injection e with e;omega)
theorem Zlr(a:Ac)(ha:a.ok)(w:World):
  Calls Tryz.prog 251 #[.agg (acC a).toArray] w fun e w'=>∃A c,e=.returned (.slice A (acB a).length c)∧Own 5 w' w.heap.size A c (acB a)∧Below w.heap.size w w':=by
 have h0:=Vx0 w (.cells (acC a).toArray 118)
 have b0:=hid (Zad w (.cells (acC a).toArray 118))
 have q0:=hid (Zae h0)
 have c0:=q0.out 0 _ rfl
 have c1:=q0.out 1 _ rfl
 have d1:=fun W=>Zb9 a.n 8 W (by decide) (by decide) ha.1
 have d2:=fun W=>Zb9 a.b 8 W (by decide) (by decide) ha.2
 replace d1:=hid d1
 replace d2:=hid d2
 have l1:=Zav 8 a.n
 have l2:=Zav 8 a.b
 have hB:acB a=be 8 a.n++be 8 a.b:=rfl
 obtain⟨x,hx⟩:∃x,be 8 a.n=x:=⟨_,rfl⟩
 obtain⟨y,hy⟩:∃y,be 8 a.b=y:=⟨_,rfl⟩
 rw[hx]at d1 l1 hB
 rw[hy]at d2 l2 hB
 rw[hB]
 have h16:(x++y).length=16:=by rw[Vx3,l1,l2]
 obtain⟨z,hz⟩:∃z,x++y=z:=⟨_,rfl⟩
 have hz2:=hid hz
 rw[hz]at h16 ⊢
 clear h0 hx hy hB hz q0
 replace c0:=c0
 go_enter Tryz.func251,Tryz.ntmps251
 go_wp2_with fail
 refine(d1.out _).mono ?_
 rintro e w1 ⟨A1,k1,rfl,o1,hb⟩
 have c11:=(hb.cell (Vx5 _ _ c1)).trans c1
 have W1:=hid (b0.out.trans (hb.mono b0.out.size))
 replace o1:=hid (o1.base b0.out.size)
 clear hb c0 c1
 go_wp2_with fail
 refine(d2.out _).mono ?_
 rintro e w2 ⟨A2,k2,rfl,o2,hb⟩
 have W2:=hid (W1.out.trans (hb.mono W1.out.size))
 have r2:=hid o2.rd
 replace o1:=hid (o1.out.bel hb)
 clear hb o2 c11
 go_wp2_with ((at_builtin;refine ZaO u8s rfl (.tmp 19) (.tmp 20) rfl w.heap.size A1 A2 8 8 k1 k2 x y rfl rfl l1.symm l2.symm o1.out r2.out (by rw[l1,l2];omega) W2.out.size ?_;intro A3 k3 w3 o3 hb3;rw[hz2.out]at o3 ⊢))
 rw[h16]at *
 go_ret
 exact⟨_,_,rfl,o3,W2.out.trans hb3⟩
theorem Zg3(A:Option Addr)(c:Nat)(l:List UInt8)(w:World)(hr:Rd w A l)(hc:l.length≤c)(hm:c≤maxLen):
  Calls Tryz.prog 201 #[.slice A l.length c] w fun e w'=>e=.returned (.tuple #[.agg (acC (acOf l)).toArray,.int .i64 (acE l)])∧Below w.heap.size w w':=by
 have hu:=Tryz.underlying118
 have h0:=hid (Vx0 w (.cells (acC ac0).toArray 118))
 have b0:=hid (Zad w (.cells (acC ac0).toArray 118))
 have hb0:=hid Zer
 have s2:=hid (show (Tryz.prog.info? 118).map (·.size)=some (acC ac0).toArray.size from ZaM)
 have n0:=hid (ZbW ac0)
 by_cases h16:l.length<16
 ·have e1:acE l=10:=by unfold acE;rw[if_pos h16]
  have e2:acOf l=ac0:=Zi5 (by rw[e1];decide)
  rw[e1,e2]
  have q1:decide ((l.length:Int)<16)=true:=Vy2 (by omega)
  clear e1 e2
  generalize hca:(acC ac0).toArray=ca at *
  go_enter Tryz.func201,Tryz.ntmps201
  go_wp2_with (first
   |(with_reducible refine Zac rfl 118 rfl ca (by rw[← hca];exact ZaZ) ?_)
   |((with_reducible refine Zaf rfl 118 _ rfl ca [] ?_ ?_ ?_);exact hb0.out;rfl)
   |((with_reducible refine stW 2 8 w.heap.size 118 ca ?_ ?_ ?_ ?_ ?_);exact h0.out;exact s2.out;rfl;exact n0.out;intro w3 hg3 hb3 hs3))
  subst hca
  exact Vy0 (Zgv rfl _ _ w.heap.size ac0 rfl hg3) rfl ⟨rfl,b0.out.grown hb3 b0.out.size (fun g e=>by injection e with e;omega)⟩
 have q1:decide ((l.length:Int)<16)=false:=Vy1 (by omega)
 by_cases h17:16<l.length
 ·have e1:acE l=11:=by unfold acE;rw[if_neg h16,if_pos h17]
  have e2:acOf l=ac0:=Zi5 (by rw[e1];decide)
  rw[e1,e2]
  have q2:decide (16<(l.length:Int))=true:=Vy2 (by omega)
  clear e1 e2 h16
  generalize hca:(acC ac0).toArray=ca at *
  go_enter Tryz.func201,Tryz.ntmps201
  go_wp2_with (first
   |(with_reducible refine Zac rfl 118 rfl ca (by rw[← hca];exact ZaZ) ?_)
   |((with_reducible refine Zaf rfl 118 _ rfl ca [] ?_ ?_ ?_);exact hb0.out;rfl)
   |((with_reducible refine stW 2 12 w.heap.size 118 ca ?_ ?_ ?_ ?_ ?_);exact h0.out;exact s2.out;rfl;exact n0.out;intro w3 hg3 hb3 hs3))
  subst hca
  exact Vy0 (Zgv rfl _ _ w.heap.size ac0 rfl hg3) rfl ⟨rfl,b0.out.grown hb3 b0.out.size (fun g e=>by injection e with e;omega)⟩
 have q2:decide (16<(l.length:Int))=false:=Vy1 (by omega)
 have hl:l.length=16:=by omega
 obtain⟨x,hx⟩:∃x,l.take 8=x:=⟨_,rfl⟩
 obtain⟨y,hy⟩:∃y,l.drop 8=y:=⟨_,rfl⟩
 have r1:Rd w A x:=by rw[← hx];exact hr.take 8
 have r2:Rd w (cutA A c 8 1) y:=by
  rw[← hy]
  exact((hr.row (F:=fun _=>True) fun _ _ _=>trivial).cut 8 c (by omega) hc).rd
 have lx:x.length=8:=by rw[← hx,List.length_take];omega
 have ly:y.length=8:=by rw[← hy,List.length_drop];omega
 have E1:acE l=if num x=0∧num y=0 then 8 else 0:=by unfold acE;rw[if_neg h16,if_neg h17,hx,hy]
 have E2:acOf l=if num x=0∧num y=0 then ac0 else ⟨num x,num y⟩:=by
  unfold acOf
  rw[E1,hx,hy]
  by_cases hz:num x=0∧num y=0
  ·rw[if_pos hz,if_pos hz];rfl
  ·rw[if_neg hz,if_neg hz];rfl
 obtain⟨bx,hbx⟩:∃b,((num x:Int)==0)=b:=⟨_,rfl⟩
 obtain⟨cy,hcy⟩:∃b,((num y:Int)==0)=b:=⟨_,rfl⟩
 have ax:(⟨num x,num y⟩:Ac).ok:=⟨ZkZ lx,ZkZ ly⟩
 have hz:(num x=0∧num y=0)↔(bx=true∧cy=true):=by rw[← hbx,←hcy];simp
 have E3:(if num x=0∧num y=0 then (8:Int) else 0)=if bx&&cy then 8 else 0:=by
  cases bx<;>cases cy<;>simp_all
 have E4:(if num x=0∧num y=0 then ac0 else ⟨num x,num y⟩:Ac)=if bx&&cy then ac0 else ⟨num x,num y⟩:=by
  cases bx<;>cases cy<;>simp_all
 rw[E1,E2,E3,E4]
 have w1e:=b0
 replace h0:=h0
 have r1':=hid (fun W (hb:Below w.heap.size w W)=>(show Rd W A x∧Rd W (cutA A c 8 1) y from ⟨r1.bel hb,r2.bel hb⟩))
 have sl1:=hid (fun W=>Zcl slotU8k A l.length c 8 (by omega) W)
 have sl2:=hid (fun W=>Zc7 slotU8k A l.length c 8 (by omega) W)
 have hl2:l.length-8=8:=by omega
 rw[hl2]at sl2
 have bl:=hid (Zl1 (num x) (num y))
 have nb:=hid (ZbW ⟨num x,num y⟩)
 have lx':=hid lx
 have ly':=hid ly
 clear E1 E2 E3 E4 hz hx hy h16 h17 hl hl2 r1 r2 hc hm hr lx ly
 go_enter Tryz.func201,Tryz.ntmps201
 go_wp2_with ((with_reducible refine Zac rfl 118 rfl (acC ac0).toArray ZaZ ?_))
 generalize w.alloc (.cells (acC ac0).toArray 118)=w1 at *
 rcases bx with _|_
 rotate_left
 cases cy
 all_goals
  focus
   refine rgB fun hHeld=>?_
   refine' tkP 0 rfl ?_
   simp only[sQ]
   refine' tkH 1 rfl (Yb2 (by rfl) _ _ _ _ _ rfl _ _ _ _ _ (sl1.out) rfl rfl rfl rfl) ?_
   simp only[sQ]
   refine' tkP 3 rfl ?_
   simp only[sQ]
   refine' tkH 4 rfl (Yb2 (by rfl) _ _ _ _ _ rfl _ _ _ _ _ (sl2.out) rfl rfl rfl rfl) ?_
   simp only[sQ]
   refine rdH2 2 7 rfl rfl (fun K hK=>?_) (fun K hK=>?_)
   focus
    go_simp
    refine(Zcn A 8 _ x _ (r1'.out _ (w1e.out.trans (hHeld.mono w1e.out.size))).1 lx'.out.symm (by rw[lx'.out];omega)).mono ?_
    rintro e y2 ⟨rfl,rfl⟩
    go_wp2_with fail
    refine hK.out _ _ (hHeld) fun hHeld=>?_
    clear hK K
    try simp only[sQ]
    refine rdH2 5 7 rfl rfl (fun K hK=>?_) (fun K hK=>?_)
    focus
     go_simp
     refine(Zcn _ 8 _ y _ (r1'.out _ (w1e.out.trans (hHeld.mono w1e.out.size))).2 ly'.out.symm (by rw[ly'.out];omega)).mono ?_
     rintro e y3 ⟨rfl,rfl⟩
     go_wp2_with fail
     refine hK.out _ _ (hHeld) fun hHeld=>?_
     clear hK K
     try simp only[sQ]
     refine' tkH 6 rfl (Yb1 (by rfl) _ _ rfl _ _ (bl.out) rfl) ?_
     simp only[sQ]
     refine rdH 7 rfl fun K hK=>?_
     refine Zar rfl 118 rfl (acC ac0).toArray ZaZ ?_
     intro g6 w8 b6 e6 hB
     have m6:=Vx1 hHeld.size b6
     refine kB hK hHeld hB fun hHeld=>?_
     clear hK K
     try simp only[sQ]
    rotate_left
    focus
     refine Zar rfl 118 rfl (acC ac0).toArray ZaZ ?_
     intro g6 w8 b6 e6 hB
     have m6:=Vx1 hHeld.size b6
     refine kB hK hHeld hB fun hHeld=>?_
     clear hK K
     try simp only[sQ]
     refine rdH 5 rfl fun K hK=>?_
     go_simp
     refine(Zcn _ 8 _ y _ (r1'.out _ (w1e.out.trans (hHeld.mono w1e.out.size))).2 ly'.out.symm (by rw[ly'.out];omega)).mono ?_
     rintro e y3 ⟨rfl,rfl⟩
     go_wp2_with fail
     refine hK.out _ _ (hHeld) fun hHeld=>?_
     clear hK K
     try simp only[sQ]
     refine' tkH 6 rfl (Yb1 (by rfl) _ _ rfl _ _ (bl.out) rfl) ?_
     simp only[sQ]
   rotate_left 2
   focus
    refine Zar rfl 118 rfl (acC ac0).toArray ZaZ ?_
    intro g6 w8 b6 e6 hB
    have m6:=Vx1 hHeld.size b6
    refine kB hK hHeld hB fun hHeld=>?_
    clear hK K
    try simp only[sQ]
    refine rdH 2 rfl fun K hK=>?_
    go_simp
    refine(Zcn A 8 _ x _ (r1'.out _ (w1e.out.trans (hHeld.mono w1e.out.size))).1 lx'.out.symm (by rw[lx'.out];omega)).mono ?_
    rintro e y2 ⟨rfl,rfl⟩
    go_wp2_with fail
    refine hK.out _ _ (hHeld) fun hHeld=>?_
    clear hK K
    try simp only[sQ]
    refine rdH 5 rfl fun K hK=>?_
    go_simp
    refine(Zcn _ 8 _ y _ (r1'.out _ (w1e.out.trans (hHeld.mono w1e.out.size))).2 ly'.out.symm (by rw[ly'.out];omega)).mono ?_
    rintro e y3 ⟨rfl,rfl⟩
    go_wp2_with fail
    refine hK.out _ _ (hHeld) fun hHeld=>?_
    clear hK K
    try simp only[sQ]
    refine' tkH 6 rfl (Yb1 (by rfl) _ _ rfl _ _ (bl.out) rfl) ?_
    simp only[sQ]
   all_goals
    refine rdH 8 rfl fun K hK=>?_
    refine Zaj rfl 118 (.tmp 4) (.tmp 19) rfl g6 _ rfl rfl 118 (acC ac0).toArray e6 ZaM rfl nb.out ?_
    intro w9 d6 hG
    refine hK.out _ _ (hHeld.grown hG hHeld.size (by intro k hk;injection hk with hk;omega)) fun hHeld=>?_
    clear hK K
    try simp only[sQ]
    refine dnN ?_
    have q6:=Zae (l:=acC ⟨num x,num y⟩) d6
    have c0:=q6 0 _ rfl
    have c1:=q6 1 _ rfl
    have h9:=hid ((hHeld.block _ (block_lt h0.out)).trans h0.out)
    have W9:=hid (w1e.out.trans (hHeld.mono w1e.out.size))
    have q7:=hid q6
    clear hHeld d6 q6
    go_wp2_with (first
     |((with_reducible refine Zaf rfl 118 _ rfl (acC ac0).toArray [] ?_ ?_ ?_);exact hb0.out;rfl)
     |(with_reducible refine lDr q7.out ZaM hu ?_)
     |((with_reducible refine stW 2 28 w.heap.size 118 (acC ac0).toArray ?_ ?_ ?_ ?_ ?_);exact h9.out;exact ZaM;rfl;exact n0.out;intro w3 hg3 hb3 hs3)
     |((with_reducible refine stW 2 29 w.heap.size 118 (acC ac0).toArray ?_ ?_ ?_ ?_ ?_);exact h9.out;exact ZaM;rfl;exact nb.out;intro w3 hg3 hb3 hs3))
    first
     |exact Vy0 (Zgv rfl _ _ w.heap.size ac0 rfl hg3) rfl ⟨rfl,W9.out.grown hb3 W9.out.size (fun g e=>by injection e with e;omega)⟩
     |exact Vy0 (Zgv rfl _ _ w.heap.size ⟨num x,num y⟩ rfl hg3) rfl ⟨rfl,W9.out.grown hb3 W9.out.size (fun g e=>by injection e with e;omega)⟩
theorem ZzA{ps:List Pr}{j:Nat}(hj:j<ps.length):heldP (ps.take (j+1))=(heldP (ps.take j)&&decide (acE ps[j].v=0)):=by
 unfold heldP
 rw[Vy5 hj,List.all_append]
 simp
theorem YgG{ps:List Pr}{j:Nat}(hj:j<ps.length)(h:acE ps[j].v≠0):heldP ps=false:=by
 refine Bool.eq_false_iff.2 fun q=>h (Zc5.1 q _ (List.getElem_mem hj))
theorem ZxU(F:Nat→Prop)(A:Option Addr)(c n:Nat)(ps:List Pr)(w:World)(hr:Row F w A ps)(hn:n=ps.length)(hc:ps.length≤1000000):
  Calls Tryz.prog 138 #[.slice A n c] w fun e w'=>e=.returned (.bool (heldP ps))∧Below w.heap.size w w':=by
 subst hn
 obtain⟨ans,ha⟩:∃ans,heldP ps=ans:=⟨_,rfl⟩
 rw[ha]
 replace ha:=hid ha
 go_enter Tryz.func138,Tryz.ntmps138
 go_wp2
 go_loopw [3] (fun i wr=>∃k:Nat,k≤ps.length∧i=.int .i64 k∧heldP (ps.take k)=true∧Below w.heap.size w wr) (fun i _=>ps.length-(intOf i).toNat)
 case atStart=>exact⟨0,Nat.zero_le _,rfl,rfl,Below.refl _ _⟩
 case round=>
  obtain⟨k,hk,rfl,hrel,hbw⟩:=hrel
  by_cases hlt:k<ps.length
  ·have hR:=hr.bel hbw
   obtain⟨b,o,hA,r1,A',c',hcell,_,h1,h2,h3⟩:=ZcO hR hlt
   subst hA
   have hS:=ZzA hlt
   rw[hrel,Bool.true_and]at hS
   have hno:=hid (YgG hlt)
   obtain⟨eb,heb⟩:∃eb,(acE ps[k].v !=0)=eb:=⟨_,rfl⟩
   have hE1:eb=true→acE ps[k].v≠0:=fun h=>by rw[h]at heb;simpa using heb
   have hE2:eb=false→acE ps[k].v=0:=fun h=>by rw[h]at heb;simpa using heb
   replace hS:=hid hS
   replace hrel:=hid hrel
   replace hE1:=hid hE1
   replace hE2:=hid hE2
   have hRd:=hid h3.rd
   have hc1:=hid (show ps[k].v.length≤c' from h1)
   have hRA:=hid (fun W (h:Rd W A' ps[k].v)=>Zg3 A' c' ps[k].v W h h1 h2)
   generalize ps[k].v=v at *
   generalize acE v=ev at *
   generalize acOf v=av at *
   have nb:=hid (ZbW av)
   clear h3 hR r1
   go_wp2_with fail
   refine(hRA.out _ hRd.out).mono ?_
   rintro e w2 ⟨rfl,hb⟩
   have W2:=hid (hbw.trans (hb.mono hbw.size))
   have e2:=hid (Vx0 w2 (.cells (acC ac0).toArray 118))
   clear hb hbw hRd hRA
   cases eb
   ·go_wp2_with (first
     |(with_reducible refine Zac rfl 118 rfl (acC ac0).toArray ZaZ ?_)
     |((with_reducible refine stW 4 19 w2.heap.size 118 (acC ac0).toArray ?_ ?_ ?_ ?_ ?_);exact e2.out;exact ZaM;rfl;exact nb.out;intro w3 hg3 hb3 hs3;have X3:=hid (Zan rfl hb3)))
    go_roundw
    case rel=>exact⟨k+1,by omega,by go_num,by rw[hS.out,hE2.out (by first|trivial|rfl)];rfl,W2.out.trans (X3.out.mono W2.out.size)⟩
    case measure=>simp[intOf];omega
   ·go_wp2_with (first
     |(with_reducible refine Zac rfl 118 rfl (acC ac0).toArray ZaZ ?_)
     |((with_reducible refine stW 4 19 w2.heap.size 118 (acC ac0).toArray ?_ ?_ ?_ ?_ ?_);exact e2.out;exact ZaM;rfl;exact nb.out;intro w3 hg3 hb3 hs3;have X3:=hid (Zan rfl hb3)))
    go_ret
    exact⟨Zcs (by rw[← ha.out,hno.out (hE1.out (by first|trivial|rfl))]),W2.out.trans (X3.out.mono W2.out.size)⟩
  ·have hkl:k=ps.length:=by omega
   subst hkl
   rw[List.take_length]at hrel
   replace hrel:=hid hrel
   go_wp2
   go_ret
   exact⟨Zcs (by rw[← ha.out,hrel.out]),hbw⟩
theorem Zo8(F:Nat→Prop)(A:Option Addr)(c n:Nat)(ps:List Pr)(k:Dg)(w:World)(hr:Row F w A ps)(hn:n=ps.length)(hc:ps.length≤1000000)(hs:Srt ps):
  Calls Tryz.prog 206 #[.slice A n c,.agg (k.1.map bv).toArray] w fun e w'=>e=.returned (.agg (acC (inA ps k)).toArray)∧Below w.heap.size w w':=by
 subst hn
 have hu:=Tryz.underlying26
 have hua:=Tryz.underlying118
 have h0:=Vx0 w (.cells (k.1.map bv).toArray 26)
 have b0:=Zad w (.cells (k.1.map bv).toArray 26)
 have h1:=Vx0 (w.alloc (.cells (k.1.map bv).toArray 26)) (.cells (acC ac0).toArray 118)
 have b1:=Zad (w.alloc (.cells (k.1.map bv).toArray 26)) (.cells (acC ac0).toArray 118)
 rw[Vx2]at h1
 have K1:=hid (Zab b1 (Zae h0))
 have W1:=hid (b0.trans (b1.mono b0.size))
 have i1:=hid (ZaF k)
 have r1:=hid ((hr.bel b0).bel b1)
 replace h1:=hid h1
 have hF:=fun W hW=>ZhH F A c ps.length ps k W hW rfl (by omega)
 have hb0:=hid Zer
 have n0:=hid (ZbW ac0)
 by_cases hh:hasP ps k=true
 ·obtain⟨j,hj,hf,hk⟩:=ZjP hh
  rw[hf]at hF
  have hin:inA ps k=acOf ps[j].v:=by unfold inA;rw[← hk,ZdZ hs (List.getElem_mem hj)]
  obtain⟨av,hav⟩:∃a,acOf ps[j].v=a:=⟨_,rfl⟩
  rw[hin,hav]
  replace hav:=hid hav
  replace hF:=hid hF
  have q1:decide ((j:Int)<0)=false:=Vy1 (by omega)
  clear h0 b0 b1 hr hf hh hin hs
  generalize k.1.map bv=dk at *
  go_enter Tryz.func206,Tryz.ntmps206
  go_wp2_with (first
   |(with_reducible refine Zac rfl 118 rfl (acC ac0).toArray ZaZ ?_)
   |(with_reducible refine lDr K1.out i1.out hu ?_))
  refine(hF.out _ r1.out).mono ?_
  rintro e w2 ⟨rfl,hb⟩
  have W2:=hid (W1.out.trans (hb.mono W1.out.size))
  have h2:=hid ((hb.block _ (block_lt h1.out)).trans h1.out)
  have r2:=hid (r1.out.bel hb)
  clear hb hF r1 h1 K1
  obtain⟨b,o,hA,_,A',c',hcell,_,g1,g2,g3⟩:=ZcO r2.out hj
  subst hA
  have hRd:=hid g3.rd
  have hRA:=fun W (h:Rd W A' ps[j].v)=>Zg3 A' c' ps[j].v W h g1 g2
  rw[hav.out]at hRA
  replace hRA:=hid hRA
  clear g3 r2 hav
  generalize ps[j].v=v at *
  generalize acE v=ev at *
  have nb:=hid (ZbW av)
  have iv:=hid (show (Tryz.prog.info? 118).map (·.size)=some (acC av).length from ZaM)
  go_wp2_with fail
  refine(hRA.out _ hRd.out).mono ?_
  rintro e w3 ⟨rfl,hb⟩
  have W3:=hid (W2.out.trans (hb.mono W2.out.size))
  have h3:=hid ((hb.block _ (block_lt h2.out)).trans h2.out)
  have e3:=hid (Vx0 w3 (.cells (acC ac0).toArray 118))
  have l3:=hid (block_lt h3.out)
  clear hb hRA hRd h2 hcell
  go_wp2_with (first
   |(with_reducible refine Zac rfl 118 rfl (acC ac0).toArray ZaZ ?_)
   |((with_reducible refine stW 6 21 w3.heap.size 118 (acC ac0).toArray ?_ ?_ ?_ ?_ ?_);exact e3.out;exact ZaM;rfl;exact nb.out;intro w4 hgS hbS hsS;have X4:=hid (Zan rfl hbS);have q4:=hid (Zae hgS);have h4:=hid ((X4.out.block _ l3.out).trans h3.out);have W4:=hid (W3.out.trans (X4.out.mono W3.out.size));clear hgS hbS hsS)
   |(with_reducible refine lDr q4.out iv.out hua ?_)
   |((with_reducible refine stW 4 23 (w.heap.size+1) 118 (acC ac0).toArray ?_ ?_ ?_ ?_ ?_);exact h4.out;exact ZaM;rfl;exact nb.out;intro w5 hg5 hb5 hs5))
  refine Vy0 (v:=.agg (acC av).toArray) ?_ rfl ⟨rfl,?_⟩
  ·exact results_cell_row Tryz.results206 _ _ (w.heap.size+1) 118 _ (0,0) _ rfl hg5 hua rfl ZaM
  ·exact W4.out.grown hb5 W4.out.size (fun g e=>by injection e with e;omega)
 ·have hh:=Bool.eq_false_iff.2 hh
  rw[ZkM hh]at hF
  rw[ZeX hh]
  replace hF:=hid hF
  clear h0 b0 b1 hr hh hs
  generalize k.1.map bv=dk at *
  go_enter Tryz.func206,Tryz.ntmps206
  go_wp2_with (first
   |(with_reducible refine Zac rfl 118 rfl (acC ac0).toArray ZaZ ?_)
   |(with_reducible refine lDr K1.out i1.out hu ?_))
  refine(hF.out _ r1.out).mono ?_
  rintro e w2 ⟨rfl,hb⟩
  have W2:=hid (W1.out.trans (hb.mono W1.out.size))
  have h2:=hid ((hb.block _ (block_lt h1.out)).trans h1.out)
  clear hb hF r1 h1 K1
  go_wp2_with (first
   |((with_reducible refine Zaf rfl 118 _ rfl (acC ac0).toArray [] ?_ ?_ ?_);exact hb0.out;rfl)
   |((with_reducible refine stW 4 13 (w.heap.size+1) 118 (acC ac0).toArray ?_ ?_ ?_ ?_ ?_);exact h2.out;exact ZaM;rfl;exact n0.out;intro w5 hg5 hb5 hs5))
  refine Vy0 (v:=.agg (acC ac0).toArray) ?_ rfl ⟨rfl,?_⟩
  ·exact results_cell_row Tryz.results206 _ _ (w.heap.size+1) 118 _ (0,0) _ rfl hg5 hua rfl ZaM
  ·exact W2.out.grown hb5 W2.out.size (fun g e=>by injection e with e;omega)
def mayA(t:Tr):Bool:=mayT t&&heldP (allT t)
theorem ZeH{t:Tr}(h:mayT t=true)(hc:t.ns.length≤1000000):(allT t).length≤1000000:=Vx1 (Zbp h).2.2.1 hc
theorem ZeF(F:Nat→Prop)(A:Option Addr)(c:Nat)(ns:List Nd)(root:Int)(w:World)(hr:Row F w A ns)(hc:ns.length≤1000000):
  Calls Tryz.prog 68 #[.agg #[.slice A ns.length c,.int .i64 root]] w fun e w'=>e=.returned (.bool (mayA ⟨ns,root⟩))∧Below w.heap.size w w':=by
 have hut:=Tryz.underlying24
 have T0:=BoxT.new w A ns.length c root 24
 have W0:=hid (Zad w (.cells #[.slice A ns.length c,.int .i64 root] 24))
 have jT:=hid (show (Tryz.prog.info? 24).map (·.size)=some ([Value.slice A ns.length c,.int .i64 root]).length from Zah)
 have r0:=hid (hr.bel W0.out)
 have X0:=hid T0.all
 obtain⟨m,hm⟩:∃m,mayT ⟨ns,root⟩=m:=⟨_,rfl⟩
 have hM:=fun W hW=>ZcC F A c ns root m W hW (by omega) hm
 obtain⟨csT,hcs⟩:∃cs,[Value.slice A ns.length c,.int .i64 root]=cs:=⟨_,rfl⟩
 have hcsA: #[Value.slice A ns.length c,.int .i64 root]=csT.toArray:=by rw[← hcs]
 cases m with
 |false=>
  have e:mayA ⟨ns,root⟩=false:=by unfold mayA;rw[hm];rfl
  rw[e]
  clear e hm
  rw[hcsA]at W0 X0 r0 hM ⊢
  rw[hcs]at X0 jT
  replace hM:=hid hM
  clear T0 hcs hcsA
  go_enter Tryz.func68,Tryz.ntmps68
  go_wp2_with ((with_reducible refine lDr X0.out jT.out hut ?_))
  refine(hM.out _ r0.out).mono ?_
  rintro e w1 ⟨rfl,hb⟩
  go_wp2
  go_ret
  exact⟨rfl,W0.out.trans (hb.mono W0.out.size)⟩
 |true=>
  have e:mayA ⟨ns,root⟩=heldP (allT ⟨ns,root⟩):=by unfold mayA;rw[hm];rfl
  have hA:=fun W hW=>ZbT F A c ns root W hW hc hm
  have hl:=ZeH hm hc
  rw[e]
  clear e hm
  generalize allT ⟨ns,root⟩=ps at *
  have hH:=hid (fun G A c W (h:Row G W A ps)=>ZxU G A c ps.length ps W h rfl hl)
  generalize heldP ps=h at *
  rw[hcsA]at W0 X0 r0 hM hA ⊢
  rw[hcs]at X0 jT
  replace hM:=hid hM
  replace hA:=hid hA
  clear T0 hcs hcsA
  go_enter Tryz.func68,Tryz.ntmps68
  go_wp2_with ((with_reducible refine lDr X0.out jT.out hut ?_))
  refine(hM.out _ r0.out).mono ?_
  rintro e w1 ⟨rfl,hb⟩
  have W1:=hid (W0.out.trans (hb.mono W0.out.size))
  have X1:=hid (Zab hb X0.out)
  have r1:=hid (r0.out.bel hb)
  clear hb
  go_wp2_with ((with_reducible refine lDr X1.out jT.out hut ?_))
  refine(hA.out _ r1.out).mono ?_
  rintro e w2 ⟨A2,c2,rfl,o2,hb⟩
  have W2:=hid (W1.out.trans (hb.mono W1.out.size))
  have r2:=hid (OwnR.row o2)
  clear hb o2
  go_wp2_with fail
  refine(hH.out _ _ _ _ r2.out).mono ?_
  rintro e w3 ⟨rfl,hb⟩
  go_wp2
  go_ret
  exact⟨rfl,W2.out.trans (hb.mono W2.out.size)⟩
def getA(t:Tr)(k:Dg):Ac:=if mayA t=true then inA (allT t) k else ac0
theorem Yf4(w:World)(k:Dg)(a:Ac)(t u:TypeId):
  ((w.alloc (.cells (k.1.map bv).toArray t)).alloc (.cells (acC a).toArray u)).rangeAt w.heap.size 0 (k.1.map bv)∧((w.alloc (.cells (k.1.map bv).toArray t)).alloc (.cells (acC a).toArray u)).rangeAt (w.heap.size+1) 0 (acC a)∧
  Below w.heap.size w ((w.alloc (.cells (k.1.map bv).toArray t)).alloc (.cells (acC a).toArray u)):=by
 have h1:=Zae (Vx0 w (.cells (k.1.map bv).toArray t))
 have h2:=Zae (Vx0 (w.alloc (.cells (k.1.map bv).toArray t)) (.cells (acC a).toArray u))
 rw[Vx2]at h2
 exact⟨Zab (Zad _ _) h1,h2,Zag (Zad _ _) (Zad _ _)⟩
theorem YfP(a:Ac):a=ac0↔(((a.n:Int)==0)=true∧((a.b:Int)==0)=true):=by
 constructor
 ·rintro rfl;exact⟨rfl,rfl⟩
 ·intro h;simp at h;exact Zuo h.1 h.2
theorem Zg4(F:Nat→Prop)(A:Option Addr)(c n:Nat)(ps:List Pr)(k:Dg)(a:Ac)(w:World)(ha:a.ok)(hr:Row F w A ps)(hn:n=ps.length)(hc:ps.length≤1000000)(hv:∀p∈ps,p.v.length≤1000000):
  Calls Tryz.prog 208 #[.slice A n c,.agg (k.1.map bv).toArray,.agg (acC a).toArray] w fun e w'=>∃A' c',e=.returned (.slice A' (setP ps k a).length c')∧OwnR 84 w' w.heap.size A' c' (setP ps k a)∧Below w.heap.size w w':=by
 subst hn
 have hu:=Tryz.underlying26
 have hua:=Tryz.underlying118
 obtain⟨K0,A0,W0⟩:=Yf4 w k a 26 118
 replace K0:=hid K0
 replace W0:=hid W0
 have c0:=A0 0 _ rfl
 have c1:=A0 1 _ rfl
 replace A0:=hid A0
 have i1:=hid (ZaF k)
 have ia:=hid (show (Tryz.prog.info? 118).map (·.size)=some (acC a).length from ZaM)
 have r0:=hid (hr.bel W0.out)
 obtain⟨bx,hbx⟩:∃b,((a.n:Int)==0)=b:=⟨_,rfl⟩
 obtain⟨cy,hcy⟩:∃b,((a.b:Int)==0)=b:=⟨_,rfl⟩
 have hz:a=ac0↔(bx=true∧cy=true):=by rw[YfP,hbx,hcy]
 by_cases hzz:a=ac0
 ·have e:setP ps k a=withoutP ps k:=by unfold setP;rw[if_pos hzz]
  rw[e]
  obtain⟨rfl,rfl⟩:=hz.1 hzz
  have hW:=fun W h=>Zgk F A c ps.length ps k W h rfl hc hv
  generalize withoutP ps k=qs at *
  replace hW:=hid hW
  clear hz hzz e hr hv
  generalize k.1.map bv=dk at *
  generalize hca:acC a=ca at *
  go_enter Tryz.func208,Tryz.ntmps208
  go_wp2_with ((with_reducible refine lDr K0.out i1.out hu ?_))
  refine(hW.out _ r0.out).mono ?_
  rintro e w1 ⟨A1,k1,rfl,o1,hb⟩
  go_wp2
  go_ret
  exact⟨_,_,rfl,o1.base W0.out.size,W0.out.trans (hb.mono W0.out.size)⟩
 ·have e:setP ps k a=withP ps k (acB a):=by unfold setP;rw[if_neg hzz]
  rw[e]
  have hB:=hid (fun W=>Zlr a ha W)
  have hl:=Zkx a
  have hW:=fun V m d W h hV (hm:m=(acB a).length)=>ZmE F A V c ps.length m d ps k (acB a) W h rfl hV hm hc hv (by rw[hl];omega)
  clear hl
  generalize withP ps k (acB a)=qs at *
  generalize acB a=v at *
  replace hW:=hid hW
  have hq:¬(bx=true∧cy=true):=fun q=>hzz (hz.2 q)
  clear hz hzz e hr hv
  generalize k.1.map bv=dk at *
  generalize hca:acC a=ca at *
  rcases bx with _|_
  rotate_left
  rcases cy with _|_
  rotate_left
  ·exact absurd ⟨rfl,rfl⟩ hq
  all_goals
   clear hq
   go_enter Tryz.func208,Tryz.ntmps208
   go_wp2
   generalize (w.alloc (.cells dk.toArray 26)).alloc (.cells ca.toArray 118)=w1 at *
   refine rgB fun hHeld=>?_
   refine' tkP 0 rfl ?_
   refine' tkM 1 rfl (fun _ h=>Zab h K0.out) hu i1.out ?_
   refine' tkM 2 rfl (fun _ h=>Zab h A0.out) hua ia.out ?_
   simp only[sQ]
   refine rdH 3 rfl fun K hK=>?_
   go_simp
   refine(hB.out _).mono ?_
   rintro e v1 ⟨A2,c2,rfl,o2,hB⟩
   have r2:=hid o2.rd
   go_wp2_with fail
   refine kB hK hHeld hB fun hHeld=>?_
   clear hK K
   try simp only[sQ]
   refine rdH 4 rfl fun K hK=>?_
   go_simp
   refine(hW.out _ _ _ _ (r0.out.bel hHeld) r2.out rfl).mono ?_
   rintro e v2 ⟨A3,c3,rfl,o3,hB⟩
   have m3:=hid hHeld.size
   go_wp2_with fail
   refine kB hK hHeld hB fun hHeld=>?_
   clear hK K
   try simp only[sQ]
   refine' tkP 5 rfl ?_
   simp only[sQ]
   refine dnN ?_
   go_wp2
   go_ret
   exact⟨_,_,rfl,o3.base (Vx1 W0.out.size m3.out),W0.out.trans (hHeld.mono W0.out.size)⟩
def itA:List Pr→List (Ac×Int)
 |[]=>[]
 |p::ps=>if acE p.v=0 then (acOf p.v,0)::itA ps else [(ac0,8)]
def seqA(t:Tr):List (Ac×Int):=if mayT t=true then itA (allT t) else [(ac0,8)]
theorem Zpz{ps:List Pr}(h:heldP ps=true):itA ps=ps.map fun p=>(acOf p.v,0):=by
 induction ps with
 |nil=>rfl
 |cons p ps ih=>
  rw[Zc5]at h
  unfold itA
  rw[if_pos (h p (List.mem_cons_self ..)),ih (Zc5.2 fun q hq=>h q (List.mem_cons_of_mem _ hq))]
  rfl
theorem YgK{ps:List Pr}(h:heldP ps=false):∃x∈itA ps,x.2≠0:=by
 induction ps with
 |nil=>cases h
 |cons p ps ih=>
  unfold itA
  split
  ·rename_i hz
   have:heldP ps=false:=by
    rw[heldP,List.all_cons,Vy2 hz,Bool.true_and]at h
    exact h
   obtain⟨x,hx,hx2⟩:=ih this
   exact⟨x,List.mem_cons_of_mem _ hx,hx2⟩
  ·exact⟨_,List.mem_singleton.2 rfl,by decide⟩
theorem ZzE:∀(ps:List Pr),∀x∈itA ps,x.2=0∨x.2=8
 |[],x,h=>by cases h
 |p::ps,x,h=>by
  unfold itA at h
  split at h
  ·rcases List.mem_cons.1 h with rfl|h
   ·exact .inl rfl
   ·exact ZzE ps x h
  ·rw[List.mem_singleton.1 h];exact .inr rfl
theorem ZuQ{ps:List Pr}{j:Nat}(h:j<ps.length)(hh:heldP (ps.take j)=true)(hz:acE ps[j].v=0):heldP (ps.take (j+1))=true:=by
 rw[Zc5]at hh ⊢
 intro p hp
 rw[Vy5 h]at hp
 rcases List.mem_append.1 hp with hp|hp
 ·exact hh p hp
 ·rw[List.mem_singleton.1 hp];exact hz
theorem Ydi{ps:List Pr}{j:Nat}(h:j<ps.length)(hh:heldP (ps.take j)=true)(hz:¬acE ps[j].v=0):itA ps=((ps.take j).map fun p=>(acOf p.v,(0:Int)))++[(ac0,8)]:=by
 induction ps generalizing j with
 |nil=>simp at h
 |cons p ps ih=>
  cases j with
  |zero=>
   unfold itA
   rw[if_neg (by simpa using hz)]
   rfl
  |succ j=>
   rw[List.take_succ_cons]at hh
   have hp:=Zc5.1 hh p (List.mem_cons_self ..)
   unfold itA
   rw[if_pos hp,ih (j:=j) (by simpa using h) (Zc5.2 fun q hq=>Zc5.1 hh q (List.mem_cons_of_mem _ hq)) (by simpa using hz)]
   rfl
theorem Yet(t:Tr):∀x∈seqA t,x.2=0∨x.2=8:=fun x h=>by
 unfold seqA at h
 split at h
 ·exact ZzE _ x h
 ·rw[List.mem_singleton.1 h];exact .inr rfl
theorem Zp6(t:Tr):mayA t=true↔∀x∈seqA t,x.2=0:=by
 unfold mayA seqA
 cases h:mayT t with
 |false=>simp
 |true=>
  rw[Bool.true_and,if_pos rfl]
  constructor
  ·intro hh x hx
   rw[Zpz hh]at hx
   obtain⟨p,-,rfl⟩:=List.mem_map.1 hx
   rfl
  ·intro hh
   cases hq:heldP (allT t) with
   |true=>rfl
   |false=>
    obtain⟨x,hx,hx2⟩:=YgK hq
    exact absurd (hh x hx) hx2
end Go.Proofs.YtomhoehlgagiiaaGreatDoor
