import Derived.Test.YtnnclggeifnomaaGreatDoorTrA
import Derived.Test.YtnnclggeifnomaaGreatDoorPrR
import Derived.Test.YtnnclggeifnomaaGreatDoorInW
set_option maxRecDepth 100000
set_option linter.all false
set_option maxHeartbeats 4000000
namespace Go.Proofs.YtnnclggeifnomaaGreatDoor
open Go.RowKit
def smC(A:Option Addr)(n c:Nat)(root:Int)(d:Dg):List Value:=[.slice A n c,.int .i64 root]++d.1.map bv
def zSmC:Array Value:=(smC none 0 0 0 z0).toArray
theorem ZlD(A:Option Addr)(n c:Nat)(root:Int)(d:Dg):(smC A n c root d).length=34:=by simp[smC,d.2]
theorem YbW:(Tryz.prog.info? 177).map (fun i=>(i.zero,i.size))=some (some (.agg zSmC),zSmC.size):=by kernel_rfl
theorem Zuj:zSmC.size=34:=by decide +kernel
theorem ZvB:(Tryz.prog.info? 177).map (·.size)=some 34:=by kernel_rfl
theorem Yfi(A:Option Addr)(n c:Nat)(root:Int)(d:Dg):(smC A n c root d).toArray.all (·.oneCell')=true:=all_oneCell_toArray fun u hu=>by
 simp only[smC,List.cons_append,List.nil_append,List.mem_cons]at hu
 rcases hu with rfl|rfl|h
 ·rfl
 ·rfl
 ·exact Zbn _ u h
theorem Yd5:(match Tryz.prog.info? 177,Tryz.prog.underlying 177 with
  |some it,some (.struct fields)=>(fields.toList.mapM (fun f=>(Tryz.prog.info? f.type).map fun i=>(f.offset,i.size))).map fun pl=>(it.zero,pl)
  |_,_=>none)=some (some (.agg zSmC),[(0,2),(2,32)]):=by kernel_rfl
theorem YcA(A:Option Addr)(n c:Nat)(root:Int)(d:Dg):Tryz.prog.built 177 [(0,.agg #[.slice A n c,.int .i64 root]),(1,.agg (d.1.map bv).toArray)]=some (smC A n c root d).toArray:=by
 have h:=Yd5
 unfold Program.built
 cases hi:Tryz.prog.info? 177 with
 |none=>rw[hi]at h;cases h
 |some it=>
  cases hd:Tryz.prog.underlying 177 with
  |none=>rw[hi,hd]at h;cases h
  |some de=>
   cases de with
   |struct fields=>
    rw[hi,hd]at h
    simp only at h ⊢
    obtain⟨pl,hpl,h2⟩:=Option.map_eq_some_iff.1 h
    injection h2 with h3 h4
    rw[h3,hpl,h4]
    simp only
    have hk:(d.1.map bv).length=32:=by rw[Vx6];exact d.2
    have c0:(Value.agg #[.slice A n c,.int .i64 root]).cells=#[Value.slice A n c,.int .i64 root]:=rfl
    have c1:(Value.agg (d.1.map bv).toArray).cells=(d.1.map bv).toArray:=rfl
    have cz:(Value.agg zSmC).cells=zSmC:=rfl
    rw[ZaQ (off:=0) (by rw[c0];rfl) (by rw[c0,cz,Zuj];show 0+2≤34;decide)]
    have e1:lay (Value.agg zSmC).cells.toList 0 (Value.agg #[.slice A n c,.int .i64 root]).cells.toList=smC A n c root z0:=by
     rw[c0,cz]
     rfl
    rw[e1,ZaQ (off:=2) (by rw[c1,Vx7,hk];rfl) (by rw[c1,Vx7,hk,Vx7,ZlD];decide),Instr.fill]
    congr 2
    rw[c1]
    have hz:(z0.1.map bv).length=32:=by decide +kernel
    simp only[lay,smC,List.cons_append,List.nil_append,List.take_succ_cons,List.take_zero,hk]
    rw[List.drop_of_length_le (by simp[hz])]
    simp
   |_=>rw[hi,hd]at h;cases h
structure BoxS (W:World) (g:Nat) (A:Option Addr) (n c:Nat) (root:Int) (d:Dg):Prop where
 all:W.rangeAt g 0 (smC A n c root d)
 trie:W.rangeAt g 0 [.slice A n c,.int .i64 root]
 none:W.rangeAt g 2 (d.1.map bv)
theorem BoxS.of{W:World}{g:Nat}{A:Option Addr}{n c:Nat}{root:Int}{d:Dg}(h:W.rangeAt g 0 (smC A n c root d)):BoxS W g A n c root d:=by
 refine⟨h,fun j v hv=>h j v ?_,?_⟩
 ·unfold smC
  rw[List.getElem?_append_left (List.getElem?_eq_some_iff.1 hv).1];exact hv
 ·have:=Zdy (xs:=[Value.slice A n c,.int .i64 root]) (ys:=d.1.map bv) (zs:=[]) (by simpa [smC] using h) 2 rfl
  rw[Nat.zero_add]at this
  exact this
theorem BoxS.bel{W W':World}{g:Nat}{A:Option Addr}{n c:Nat}{root:Int}{d:Dg}(h:BoxS W g A n c root d)(hb:Below W.heap.size W W'):BoxS W' g A n c root d:=BoxS.of (Zab hb h.all)
theorem BoxS.new(W:World)(A:Option Addr)(n c:Nat)(root:Int)(d:Dg)(t:TypeId):BoxS (W.alloc (.cells (smC A n c root d).toArray t)) W.heap.size A n c root d:=BoxS.of (Zae (Vx0 W _))
def noneD:Dg:=⟨sha256 [0],S8.bytes_len _⟩
theorem ZiM(A:Option Addr)(n c:Nat)(root:Int)(w:World)(hT:Tab w):
  Calls Tryz.prog 131 #[.agg #[.slice A n c,.int .i64 root]] w fun e w'=>e=.returned (.agg (smC A n c root noneD).toArray)∧Below w.heap.size w w':=by
 have W0:=Zag (Zad w (.cells #[.slice A n c,.int .i64 root] 24)) (Zad _ (.cells zSmC 177))
 have T0:=(BoxT.new w A n c root 24).bel (Zad _ (.cells zSmC 177))
 have h1:=Vx0 (w.alloc (.cells #[.slice A n c,.int .i64 root] 24)) (.cells zSmC 177)
 rw[Vx2]at h1
 have hT0:=hid (hT.bel W0 hT.low)
 have hlow:=hid hT.low
 have hsz:=hid (show ((w.alloc (.cells #[.slice A n c,.int .i64 root] 24)).alloc (.cells zSmC 177)).heap.size=w.heap.size+2 by simp)
 have hut:=Tryz.underlying24
 have hus:=Tryz.underlying177
 have hiT:=hid (show (Tryz.prog.info? 24).map (·.size)=some ([Value.slice A n c,.int .i64 root]).length from Zah)
 have hbt:=hid (ZfI A n c root)
 have hbs:=hid (YcA A n c root noneD)
 have hiS:=hid (show (Tryz.prog.info? 177).map (·.size)=some (smC A n c root noneD).toArray.size by rw[Vx7,ZlD];exact ZvB)
 have hzs:=hid (show zSmC.size=(smC A n c root noneD).toArray.size by rw[Zuj,Vx7,ZlD])
 have hone:=hid (Yfi A n c root noneD)
 have hN:=fun W hTW=>ZdS W hTW
 rw[show sha256 [0]=noneD.1 from rfl]at hN
 generalize smC A n c root noneD=cs at *
 generalize noneD.1.map bv=dn at *
 replace hN:=hid hN
 replace h1:=hid h1
 go_enter Tryz.func131,Tryz.ntmps131
 go_wp2_with ((with_reducible refine Zac rfl 177 rfl zSmC YbW ?_))
 generalize (w.alloc (.cells #[.slice A n c,.int .i64 root] 24)).alloc (.cells zSmC 177)=w0 at *
 have e1:=h1.out
 refine wp_region_noPanic ?_
 refine wp_region_held_drew (S:=fun w'=>Below (w.heap.size+1) w0 w') (by kernel_rfl) ?_ (fun hHeld=>?_)
 ·exact(Zao w0).mono (by rw[hsz.out];omega)
 refine' tkM 0 rfl (fun _ h=>Zak T0.all (fun _=>h.block _ (by omega))) hut hiT.out ?_
 simp only[sQ]
 refine' tkH 1 rfl (Yb1 (by rfl) _ _ rfl _ _ (hbt.out) rfl) ?_
 simp only[sQ]
 refine rdH 2 rfl fun K hK=>?_
 go_simp
 refine(hN.out _ (hT0.out.bel hHeld (Nat.lt_succ_of_lt hlow.out))).mono ?_
 rintro e5 w5 ⟨rfl,hB⟩
 replace e1:=(hB.block _ (block_lt e1)).trans e1
 go_wp2_with fail
 refine hK.out _ _ (hHeld.trans (hB.mono (Vx1 (by rw[hsz.out];omega) hHeld.size))) fun hHeld=>?_
 clear hK K
 try simp only[sQ]
 refine' tkH 3 rfl (Yb1 (by rfl) _ _ rfl _ _ (hbs.out) rfl) ?_
 simp only[sQ]
 refine rdH 4 rfl fun K hK=>?_
 refine Zdf rfl 177 (.tmp 2) (.tmp 6) rfl (w.heap.size+1) _ rfl rfl 177 zSmC e1 hiS.out hzs.out hone.out ?_
 intro w8 d6 hG
 refine hK.out _ _ (hHeld.grown hG (Vx1 (by rw[hsz.out];omega) hHeld.size) (fun g e=>by injection e with e;omega)) fun hHeld=>?_
 clear hK K
 try simp only[sQ]
 refine dnN ?_
 go_wp2
 refine Vy0 (results_cell_row Tryz.results131 _ _ (w.heap.size+1) 177 _ (0,0) _ rfl d6 hus rfl hiS.out) rfl ⟨rfl,W0.trans (hHeld.mono (Nat.le_succ _))⟩
theorem Zyv(w:World)(A:Option Addr)(n c:Nat)(root:Int)(d:Dg):
  BoxS ((w.alloc (.cells (smC A n c root d).toArray 177)).alloc (.cells z32 37)) w.heap.size A n c root d∧
  ((w.alloc (.cells (smC A n c root d).toArray 177)).alloc (.cells z32 37)).heap[w.heap.size+1]? =some (.cells z32 37)∧
  Below w.heap.size w ((w.alloc (.cells (smC A n c root d).toArray 177)).alloc (.cells z32 37)):=by
 have h2:=Vx0 (w.alloc (.cells (smC A n c root d).toArray 177)) (.cells z32 37)
 rw[Vx2]at h2
 exact⟨(BoxS.new w A n c root d _).bel (Zad _ _),h2,Zag (Zad _ _) (Zad _ _)⟩
theorem ZqI(A:Option Addr)(n c:Nat)(root:Int)(d:Dg)(w:World):
  Calls Tryz.prog 132 #[.agg (smC A n c root d).toArray,.int .i64 0] w fun e w'=>e=.returned (.agg (d.1.map bv).toArray)∧Below w.heap.size w w':=by
 obtain⟨S0,h1,W0⟩:=Zyv w A n c root d
 have hu:=Tryz.underlying37
 have hi:=hid (Zaz d)
 have z1:((d.1.map bv).toArray).size=32:=by simp[d.2]
 have o1:=Zay d.1
 have s2:=hid S0.none
 replace h1:=hid h1
 clear S0
 generalize smC A n c root d=cs at *
 generalize d.1.map bv=dd at *
 go_enter Tryz.func132,Tryz.ntmps132
 go_wp2_with (first
  |(with_reducible refine Zac rfl 37 rfl z32 Zam ?_)
  |(with_reducible refine lDr s2.out hi.out hu ?_)
  |((with_reducible refine stW 4 12 (w.heap.size+1) 37 z32 ?_ ?_ ?_ ?_ ?_);exact h1.out;(rw[z1];exact Zai);(rw[z1];exact z32_size);exact o1;intro w4 hg4 hb4 hs4))
 refine Vy0 (results_cell_row Tryz.results132 _ _ (w.heap.size+1) 37 _ (0,0) _ rfl hg4 hu rfl (by rw[z1];exact Zai)) rfl ⟨rfl,W0.grown hb4 W0.size (fun g e=>by injection e with e;omega)⟩
theorem Yj8{w:World}{b o:Nat}{k:Dg}(h:w.rangeAt b o (k.1.map bv)):Rd w (some ⟨b,o,none⟩) k.1:=fun _=>⟨b,o,rfl,fun j x hx=>h j (bv x) (by rw[List.getElem?_map,hx];rfl)⟩
theorem ZqH(F:Nat→Prop)(A:Option Addr)(c:Nat)(ns:List Nd)(root:Int)(d:Dg)(n:Int)(w:World)(hr:Row F w A ns)(hc:ns.length≤9223372036854775807)(h0:0<n)(hn:n≤ns.length)(hl:(ndAt ns n).leaf=true)(hv:(ndAt ns n).v.length≤64)(hT:Tab w):
  Calls Tryz.prog 132 #[.agg (smC A ns.length c root d).toArray,.int .i64 n] w fun e w'=>e=.returned (.agg ((sha256 (tagB 1 [(ndAt ns n).k.1,(ndAt ns n).v])).map bv).toArray)∧Below w.heap.size w w':=by
 obtain⟨S0,h1,W0⟩:=Zyv w A ns.length c root d
 have hr0:=hr.bel W0
 have hu:=Tryz.underlying37
 have hut:=Tryz.underlying122
 have hun:=Tryz.underlying106
 have hiT:=hid (show (Tryz.prog.info? 122).map (·.size)=some ([Value.slice A ns.length c,.int .i64 root]).length from ZbA)
 have hT0:=hid (hT.bel W0 hT.low)
 have hlow:=hid (Vx4 hT.low W0.size)
 have hLf:=fun W hW=>Zc1 F A c ns root n W hW (by omega) hn hc
 rw[show leafB ns n=true by unfold leafB;rw[hl,Vy2 (by omega)];rfl]at hLf
 have hne:(n==0)=false:=beq_eq_false_iff_ne.2 (by omega)
 obtain⟨j,hj,rfl,hx⟩:∃(j:Nat) (hj:j<ns.length),n=(j:Int)+1∧ndAt ns n=ns[j]:=by
  obtain⟨j,rfl⟩:∃j:Nat,n=(j:Int)+1:=⟨(n-1).toNat,by omega⟩
  exact⟨j,by omega,rfl,Zfn (by omega)⟩
 rw[hx]at hv ⊢
 have hkl:=ns[j].k.2
 have hO:=fun W A (hW:Rds W A [ns[j].k.1,ns[j].v]) (hTW:Tab W)=>Zcx 1 A 2 2 [ns[j].k.1,ns[j].v] W hW rfl (by simp) (Zdm 1 (by omega) hv) hTW
 obtain⟨dg,hdg⟩:∃dg,dg=sha256 (tagB 1 [ns[j].k.1,ns[j].v]):=⟨_,rfl⟩
 rw[← hdg]at hO ⊢
 have ld:dg.length=32:=by rw[hdg];exact S8.bytes_len _
 have z1:((dg.map bv).toArray).size=32:=by simp[ld]
 have o1:=Zay dg
 clear hdg hr hT hl
 have hsl:=ZaA
 replace h1:=hid h1
 replace hO:=hid hO
 replace hLf:=hid hLf
 have S0t:=hid S0.trie
 clear S0
 generalize smC A ns.length c root d=cs at *
 go_enter Tryz.func132,Tryz.ntmps132
 go_wp2_with (first
  |(with_reducible refine Zac rfl 37 rfl z32 Zam ?_)
  |(with_reducible refine lDr S0t.out hiT.out hut ?_))
 generalize (w.alloc (.cells cs.toArray 177)).alloc (.cells z32 37)=w0 at *
 refine(hLf.out _ hr0).mono ?_
 rintro r w5 ⟨rfl,hb5⟩
 have s5:=Zab hb5 S0t.out
 have r5:=hr0.bel hb5
 have h5:=hid ((hb5.block _ (block_lt h1.out)).trans h1.out)
 have T5:=hid (hT0.out.bel hb5 hlow.out)
 have l5:=hid (Vx4 hlow.out hb5.size)
 have W5:=hid (W0.trans (hb5.mono W0.size))
 obtain⟨q,o,hAe,A',c',hR,hv1,hv2,hv3,_⟩:=Zb7 r5 hj
 subst hAe
 have hN:=fun W (hW:W.rangeAt q (o+j * 36) (ndC ns[j] A' c'))=>Zg0 q o j ns.length c root ns[j] A' c' W hW hj hc
 have hiS:=hid (show (Tryz.prog.info? 106).map (·.size)=some (ndC ns[j] A' c').toArray.size by rw[Vx7,ZaG];exact Zbd)
 have hzs:=hid (show zNdC.size=(ndC ns[j] A' c').toArray.size by rw[ZbY,Vx7,ZaG])
 have hone:=hid (ZcZ ns[j] A' c')
 have hBx:=fun (W:World) (g:Nat) (t:TypeId) (h:W.heap[g]? =some (.cells (ndC ns[j] A' c').toArray t (0,0)))=>BoxN.heap h
 have hR2:=fun W (g:Nat) (hW:Rd W (some ⟨g,1,none⟩) ns[j].k.1) (hV:Rd W A' ns[j].v)=>Zcz W (some ⟨g,1,none⟩) A' 32 c' ns[j].k.1 ns[j].v 41 hW hV ⟨by omega,by unfold maxLen;omega⟩ ⟨hv1,hv2⟩
 rw[hkl]at hR2
 have v5:=hid hv3.rd
 clear hr0 hb5 hLf hT0 S0t h1 hlow W0
 go_wp2_with ((with_reducible refine lDr s5 hiT.out hut ?_))
 refine(hN _ hR).mono ?_
 rintro r w6 ⟨rfl,hb6⟩
 have h6:=hid ((hb6.block _ (block_lt h5.out)).trans h5.out)
 have T6:=hid (T5.out.bel hb6 l5.out)
 have l6:=hid (Vx4 l5.out hb6.size)
 have W6:=hid (W5.out.trans (hb6.mono W5.out.size))
 have v6:=hid (v5.out.bel hb6)
 have e6:=hid (Vx0 w6 (.cells zNdC 106))
 clear s5 r5 hR hN hb6 h5 T5 l5 W5 v5
 go_wp2_with (first
  |(with_reducible refine Zac rfl 106 rfl zNdC Zbh ?_)
  |((with_reducible refine stW 5 20 _ 106 zNdC ?_ ?_ ?_ ?_ ?_);exact e6.out;exact hiS.out;exact hzs.out;exact hone.out;intro w7 hg7 hb7 hs7;have X7:=hid (Zan rfl hb7);have N7:=hBx _ _ _ hg7;have y7:=N7.val;have k7:=Yj8 N7.key;have v7:=v6.out.bel X7.out;have T7:=hid (T6.out.bel X7.out l6.out);have l7:=hid (Vx4 l6.out X7.out.size);have h7:=hid ((X7.out.block _ (block_lt h6.out)).trans h6.out);have W7:=hid (W6.out.trans (X7.out.mono W6.out.size));clear hg7 hb7 hs7))
 go_still_tail 4,(by kernel_rfl)
 have B8:=(Zad w7 (.cells #[.slice (some ⟨w6.heap.size,1,none⟩) 32 32,.slice A' ns[j].v.length c'] 41)).trans ((Zao (w7.alloc (.cells #[.slice (some ⟨w6.heap.size,1,none⟩) 32 32,.slice A' ns[j].v.length c'] 41))).mono (Zad w7 _).size)
 have R8:=hid ((hR2 w7 _ k7 v7).bel (Zao _))
 have T8:=hid (T7.out.bel B8 l7.out)
 have h8:=hid ((B8.block _ (block_lt h7.out)).trans h7.out)
 have W8:=hid (W7.out.trans (B8.mono W7.out.size))
 clear B8 hR2 k7 v7 T7 h7 W7 N7 y7 h6 T6 W6 v6 e6 X7 hBx
 go_wp2_with fail
 refine(hO.out _ _ R8.out T8.out).mono ?_
 rintro e w9 ⟨rfl,hb9⟩
 have h9:=hid ((hb9.block _ (block_lt h8.out)).trans h8.out)
 have W9:=hid (W8.out.trans (hb9.mono W8.out.size))
 clear hb9
 go_wp2_with (((with_reducible refine stW 4 26 _ 37 z32 ?_ ?_ ?_ ?_ ?_);exact h9.out;(rw[z1];exact Zai);(rw[z1];exact z32_size);exact o1;intro w10 hg4 hb4 hs4))
 refine Vy0 (results_cell_row Tryz.results132 _ _ (w.heap.size+1) 37 _ (0,0) _ rfl hg4 hu rfl (by rw[z1];exact Zai)) rfl ⟨rfl,W9.out.grown hb4 W9.out.size (fun g e=>by injection e with e;omega)⟩
theorem ZxL(F:Nat→Prop)(A:Option Addr)(c:Nat)(ns:List Nd)(root:Int)(d:Dg)(n:Int)(g0 g1:Dg)(w:World)(hr:Row F w A ns)(hc:ns.length≤9223372036854775807)(h0:0<n)(hn:n≤ns.length)(hl:(ndAt ns n).leaf=false)(hT:Tab w)
  (i0:∀W,Row F W A ns→Tab W→Calls Tryz.prog 132 #[.agg (smC A ns.length c root d).toArray,.int .i64 (ndAt ns n).l] W fun e w'=>e=.returned (.agg (g0.1.map bv).toArray)∧Below W.heap.size W w')
  (i1:∀W,Row F W A ns→Tab W→Calls Tryz.prog 132 #[.agg (smC A ns.length c root d).toArray,.int .i64 (ndAt ns n).r] W fun e w'=>e=.returned (.agg (g1.1.map bv).toArray)∧Below W.heap.size W w'):
  Calls Tryz.prog 132 #[.agg (smC A ns.length c root d).toArray,.int .i64 n] w fun e w'=>e=.returned (.agg ((sha256 (tagB 2 [g0.1,g1.1])).map bv).toArray)∧Below w.heap.size w w':=by
 obtain⟨S0,h1,W0⟩:=Zyv w A ns.length c root d
 have hr0:=hr.bel W0
 have hu:=Tryz.underlying37
 have hut:=Tryz.underlying122
 have hus:=Tryz.underlying177
 have hiT:=hid (show (Tryz.prog.info? 122).map (·.size)=some ([Value.slice A ns.length c,.int .i64 root]).length from ZbA)
 have hiSm:=hid (show (Tryz.prog.info? 177).map (·.size)=some (smC A ns.length c root d).length by rw[ZlD];exact ZvB)
 have hT0:=hid (hT.bel W0 hT.low)
 have hlow:=hid (Vx4 hT.low W0.size)
 have hLf:=fun W hW=>Zc1 F A c ns root n W hW (by omega) hn hc
 rw[show leafB ns n=false by unfold leafB;rw[hl,Vy2 (by omega)];rfl]at hLf
 have hne:(n==0)=false:=beq_eq_false_iff_ne.2 (by omega)
 obtain⟨j,hj,rfl,hx⟩:∃(j:Nat) (hj:j<ns.length),n=(j:Int)+1∧ndAt ns n=ns[j]:=by
  obtain⟨j,rfl⟩:∃j:Nat,n=(j:Int)+1:=⟨(n-1).toNat,by omega⟩
  exact⟨j,by omega,rfl,Zfn (by omega)⟩
 rw[hx]at i0 i1
 obtain⟨g0,l0⟩:=g0
 obtain⟨g1,l1⟩:=g1
 dsimp only at i0 i1 ⊢
 have hO:=fun W A (hW:Rds W A [g0,g1]) (hTW:Tab W)=>Zcx 2 A 2 2 [g0,g1] W hW rfl (by simp) (Zdm 2 (by omega) (by omega)) hTW
 have hR:=fun W p q (hW:Rd W (some ⟨p,0,none⟩) g0) (hV:Rd W (some ⟨q,0,none⟩) g1)=>Zcz W (some ⟨p,0,none⟩) (some ⟨q,0,none⟩) 32 32 g0 g1 41 hW hV ⟨by omega,by unfold maxLen;omega⟩ ⟨by omega,by unfold maxLen;omega⟩
 rw[l0,l1]at hR
 obtain⟨dg,hdg⟩:∃dg,dg=sha256 (tagB 2 [g0,g1]):=⟨_,rfl⟩
 rw[← hdg]at hO ⊢
 have ld:dg.length=32:=by rw[hdg];exact S8.bytes_len _
 have z1:((dg.map bv).toArray).size=32:=by simp[ld]
 have o1:=Zay dg
 have y0:((g0.map bv).toArray).size=32:=by simp[l0]
 have p0:=Zay g0
 have y1:((g1.map bv).toArray).size=32:=by simp[l1]
 have p1:=Zay g1
 clear hdg hr hT hl
 have hsl:=ZaA
 replace h1:=hid h1
 replace hO:=hid hO
 replace hR:=hid hR
 replace hLf:=hid hLf
 replace i0:=hid i0
 replace i1:=hid i1
 have hu2:=Tryz.underlying222
 generalize hcs:smC A ns.length c root d=cs at *
 replace hcs:=hid hcs
 have S0t:=hid S0.trie
 replace S0:=hid S0
 go_enter Tryz.func132,Tryz.ntmps132
 go_wp2_with (first
  |(with_reducible refine Zac rfl 37 rfl z32 Zam ?_)
  |(with_reducible refine lDr S0t.out hiT.out hut ?_))
 generalize (w.alloc (.cells cs.toArray 177)).alloc (.cells z32 37)=w0 at *
 refine(hLf.out _ hr0).mono ?_
 rintro r w5 ⟨rfl,hb5⟩
 have s5:=Zab hb5 S0t.out
 have a5:=S0.out.bel hb5
 have r5:=hr0.bel hb5
 have h5:=hid ((hb5.block _ (block_lt h1.out)).trans h1.out)
 have T5:=hid (hT0.out.bel hb5 hlow.out)
 have l5:=hid (Vx4 hlow.out hb5.size)
 have W5:=hid (W0.trans (hb5.mono W0.size))
 obtain⟨q,o,hAe,A',c',hRw,hv1,hv2,hv3,_⟩:=Zb7 r5 hj
 subst hAe
 have hN:=fun W (hW:W.rangeAt q (o+j * 36) (ndC ns[j] A' c'))=>ZgJ q o j ns.length c root ns[j] A' c' W hW hj hc
 clear hr0 hb5 hLf hT0 S0t S0 h1 hlow W0 hv1 hv2 hv3
 generalize ndC ns[j] A' c'=xs at *
 generalize ns[j].l=l at *
 generalize ns[j].r=rr at *
 go_wp2_with ((with_reducible refine lDr s5 hiT.out hut ?_))
 refine(hN _ hRw).mono ?_
 rintro r w6 ⟨rfl,hb6⟩
 have a6:=hid (a5.bel hb6)
 have r6:=hid (r5.bel hb6)
 have h6:=hid ((hb6.block _ (block_lt h5.out)).trans h5.out)
 have T6:=hid (T5.out.bel hb6 l5.out)
 have l6:=hid (Vx4 l5.out hb6.size)
 have W6:=hid (W5.out.trans (hb6.mono W5.out.size))
 have e6:=hid (Vx0 w6 (.cells z2C 222))
 clear s5 a5 r5 hRw hN hb6 h5 T5 l5 W5
 go_wp2_with (first
  |(with_reducible refine Zac rfl 222 rfl z2C ZiX ?_)
  |((with_reducible refine stW 6 30 _ 222 z2C ?_ ?_ ?_ ?_ ?_);exact e6.out;exact size2;rfl;exact Yb0 l rr;intro w7 hg7 hb7 hs7;have X7:=hid (Zan rfl hb7);have a7:=a6.out.bel X7.out;have r7:=hid (r6.out.bel X7.out);have q7:=Zae (l:=[Value.int .i64 l,.int .i64 rr]) hg7;have c0:=q7 0 _ rfl;have c1:=q7 1 _ rfl;rw[Nat.zero_add]at c0 c1;have T7:=hid (T6.out.bel X7.out l6.out);have l7:=hid (Vx4 l6.out X7.out.size);have h7:=hid ((X7.out.block _ (block_lt h6.out)).trans h6.out);have W7:=hid (W6.out.trans (X7.out.mono W6.out.size));clear hg7 hb7 hs7))
 have al7:=a7.all
 rw[hcs.out]at al7
 clear a6 r6 h6 T6 l6 W6 e6 X7 a7 q7
 refine rgB fun hHeld=>?_
 refine' tkM 0 rfl (fun _ h=>Zab h al7) hus hiSm.out ?_
 refine' tkP 1 rfl ?_
 refine' tkC 2 rfl c0 ?_
 refine' tkM 4 rfl (fun _ h=>Zab h al7) hus hiSm.out ?_
 simp only[sQ]
 refine' tkP 5 rfl ?_
 refine' tkC 6 rfl c1 ?_
 simp only[sQ]
 apply shareK (T:=fun (K:World→(Nat)→(Nat)→Prop)=>∀(wq:World) (g6:Nat) (g7:Nat),Below w7.heap.size w7 wq→w7.heap.size≤g6→w7.heap.size≤g7→g6≠g7→wq.heap[g6]? =some (.cells z32 37 (0,0))→wq.heap[g7]? =some (.cells z32 37 (0,0))→K wq g6 g7)
 intro M6
 apply shareK (T:=fun (K:World→(Nat)→(Nat)→Prop)=>∀(wq:World) (g6:Nat) (g7:Nat),Below w7.heap.size w7 wq→w7.heap.size≤g6→w7.heap.size≤g7→g6≠g7→wq.heap[g6]? =some (.cells z32 37 (0,0))→wq.heap[g7]? =some (.cells z32 37 (0,0))→K wq g6 g7)
 intro M5
 apply shareK (T:=fun (K:World→(Nat)→Prop)=>∀(wq:World) (g7:Nat),Below w7.heap.size w7 wq→w7.heap.size≤g7→wq.heap[g7]? =some (.cells z32 37 (0,0))→K wq g7)
 intro M4
 apply shareK (T:=fun (K:World→(Nat)→Prop)=>∀(wq:World) (g6:Nat),Below w7.heap.size w7 wq→w7.heap.size≤g6→wq.heap[g6]? =some (.cells z32 37 (0,0))→K wq g6)
 intro M3
 apply shareK (T:=fun (K:World→(Nat)→(Nat)→Prop)=>∀(wq:World) (g6:Nat) (g7:Nat),Below w7.heap.size w7 wq→w7.heap.size≤g6→w7.heap.size≤g7→g6≠g7→wq.heap[g6]? =some (.cells z32 37 (0,0))→wq.heap[g7]? =some (.cells z32 37 (0,0))→K wq g6 g7)
 intro M2
 apply shareK (T:=fun (K:World→(Nat)→Prop)=>∀(wq:World) (g7:Nat),Below w7.heap.size w7 wq→w7.heap.size≤g7→wq.heap[g7]? =some (.cells z32 37 (0,0))→K wq g7)
 intro M1
 apply shareK (T:=fun (K:World→(Nat)→Prop)=>∀(wq:World) (g6:Nat),Below w7.heap.size w7 wq→w7.heap.size≤g6→wq.heap[g6]? =some (.cells z32 37 (0,0))→K wq g6)
 intro M0
 ·skip
  refine Yny 3 8 9 rfl rfl rfl (fun K hK=>?_) (fun K hK=>?_) (fun K hK=>?_)
  ·skip
   refine clB hK (i0.out _ (r7.out.bel hHeld) (T7.out.bel hHeld l7.out)) fun w8 hB hHeld=>?_
   try replace e6:=(hB.block _ (block_lt e6)).trans e6
   try replace e7:=(hB.block _ (block_lt e7)).trans e7
   clear hK K
   try simp only[sQ]
   refine Yny 7 8 9 rfl rfl rfl (fun K hK=>?_) (fun K hK=>?_) (fun K hK=>?_)
   ·skip
    refine clB hK (i1.out _ (r7.out.bel hHeld) (T7.out.bel hHeld l7.out)) fun w8 hB hHeld=>?_
    try replace e6:=(hB.block _ (block_lt e6)).trans e6
    try replace e7:=(hB.block _ (block_lt e7)).trans e7
    clear hK K
    try simp only[sQ]
    refine Ynx 8 9 rfl rfl (fun K hK=>?_) (fun K hK=>?_)
    ·skip
     refine Ze1 rfl 37 rfl z32 Zam ?_
     intro g6 w8 b6 e6 hB
     have m6:=Vx1 hHeld.size b6
     try have n67:g6≠g7:=fun h=>by have:=block_lt e7;omega
     try replace e7:=(hB.block _ (block_lt e7)).trans e7
     refine kB hK hHeld hB fun hHeld=>?_
     clear hK K
     try simp only[sQ]
     exact M3 _ g6 hHeld m6 e6
    ·skip
     refine Ze1 rfl 37 rfl z32 Zam ?_
     intro g7 w8 b7 e7 hB
     have m7:=Vx1 hHeld.size b7
     try have n67:g6≠g7:=fun h=>by have:=block_lt e6;omega
     try replace e6:=(hB.block _ (block_lt e6)).trans e6
     refine kB hK hHeld hB fun hHeld=>?_
     clear hK K
     try simp only[sQ]
     exact M4 _ g7 hHeld m7 e7
   ·skip
    refine Ze1 rfl 37 rfl z32 Zam ?_
    intro g6 w8 b6 e6 hB
    have m6:=Vx1 hHeld.size b6
    try have n67:g6≠g7:=fun h=>by have:=block_lt e7;omega
    try replace e7:=(hB.block _ (block_lt e7)).trans e7
    refine kB hK hHeld hB fun hHeld=>?_
    clear hK K
    try simp only[sQ]
    exact M0 _ g6 hHeld m6 e6
   ·skip
    refine Ze1 rfl 37 rfl z32 Zam ?_
    intro g7 w8 b7 e7 hB
    have m7:=Vx1 hHeld.size b7
    try have n67:g6≠g7:=fun h=>by have:=block_lt e6;omega
    try replace e6:=(hB.block _ (block_lt e6)).trans e6
    refine kB hK hHeld hB fun hHeld=>?_
    clear hK K
    try simp only[sQ]
    exact M1 _ g7 hHeld m7 e7
  ·skip
   refine Ze1 rfl 37 rfl z32 Zam ?_
   intro g6 w8 b6 e6 hB
   have m6:=Vx1 hHeld.size b6
   try have n67:g6≠g7:=fun h=>by have:=block_lt e7;omega
   try replace e7:=(hB.block _ (block_lt e7)).trans e7
   refine kB hK hHeld hB fun hHeld=>?_
   clear hK K
   try simp only[sQ]
   refine Ynx 3 9 rfl rfl (fun K hK=>?_) (fun K hK=>?_)
   ·skip
    refine clB hK (i0.out _ (r7.out.bel hHeld) (T7.out.bel hHeld l7.out)) fun w8 hB hHeld=>?_
    try replace e6:=(hB.block _ (block_lt e6)).trans e6
    try replace e7:=(hB.block _ (block_lt e7)).trans e7
    clear hK K
    try simp only[sQ]
    exact M0 _ g6 hHeld m6 e6
   ·skip
    refine Ze1 rfl 37 rfl z32 Zam ?_
    intro g7 w8 b7 e7 hB
    have m7:=Vx1 hHeld.size b7
    try have n67:g6≠g7:=fun h=>by have:=block_lt e6;omega
    try replace e6:=(hB.block _ (block_lt e6)).trans e6
    refine kB hK hHeld hB fun hHeld=>?_
    clear hK K
    try simp only[sQ]
    exact M2 _ g6 g7 hHeld m6 m7 n67 e6 e7
  ·skip
   refine Ze1 rfl 37 rfl z32 Zam ?_
   intro g7 w8 b7 e7 hB
   have m7:=Vx1 hHeld.size b7
   try have n67:g6≠g7:=fun h=>by have:=block_lt e6;omega
   try replace e6:=(hB.block _ (block_lt e6)).trans e6
   refine kB hK hHeld hB fun hHeld=>?_
   clear hK K
   try simp only[sQ]
   refine Ynx 3 8 rfl rfl (fun K hK=>?_) (fun K hK=>?_)
   ·skip
    refine clB hK (i0.out _ (r7.out.bel hHeld) (T7.out.bel hHeld l7.out)) fun w8 hB hHeld=>?_
    try replace e6:=(hB.block _ (block_lt e6)).trans e6
    try replace e7:=(hB.block _ (block_lt e7)).trans e7
    clear hK K
    try simp only[sQ]
    exact M1 _ g7 hHeld m7 e7
   ·skip
    refine Ze1 rfl 37 rfl z32 Zam ?_
    intro g6 w8 b6 e6 hB
    have m6:=Vx1 hHeld.size b6
    try have n67:g6≠g7:=fun h=>by have:=block_lt e7;omega
    try replace e7:=(hB.block _ (block_lt e7)).trans e7
    refine kB hK hHeld hB fun hHeld=>?_
    clear hK K
    try simp only[sQ]
    exact M2 _ g6 g7 hHeld m6 m7 n67 e6 e7
 ·skip
  intro wq g6 hHeld m6 e6
  refine Ynx 7 9 rfl rfl (fun K hK=>?_) (fun K hK=>?_)
  ·skip
   refine clB hK (i1.out _ (r7.out.bel hHeld) (T7.out.bel hHeld l7.out)) fun w8 hB hHeld=>?_
   try replace e6:=(hB.block _ (block_lt e6)).trans e6
   try replace e7:=(hB.block _ (block_lt e7)).trans e7
   clear hK K
   try simp only[sQ]
   exact M3 _ g6 hHeld m6 e6
  ·skip
   refine Ze1 rfl 37 rfl z32 Zam ?_
   intro g7 w8 b7 e7 hB
   have m7:=Vx1 hHeld.size b7
   try have n67:g6≠g7:=fun h=>by have:=block_lt e6;omega
   try replace e6:=(hB.block _ (block_lt e6)).trans e6
   refine kB hK hHeld hB fun hHeld=>?_
   clear hK K
   try simp only[sQ]
   exact M5 _ g6 g7 hHeld m6 m7 n67 e6 e7
 ·skip
  intro wq g7 hHeld m7 e7
  refine Ynx 7 8 rfl rfl (fun K hK=>?_) (fun K hK=>?_)
  ·skip
   refine clB hK (i1.out _ (r7.out.bel hHeld) (T7.out.bel hHeld l7.out)) fun w8 hB hHeld=>?_
   try replace e6:=(hB.block _ (block_lt e6)).trans e6
   try replace e7:=(hB.block _ (block_lt e7)).trans e7
   clear hK K
   try simp only[sQ]
   exact M4 _ g7 hHeld m7 e7
  ·skip
   refine Ze1 rfl 37 rfl z32 Zam ?_
   intro g6 w8 b6 e6 hB
   have m6:=Vx1 hHeld.size b6
   try have n67:g6≠g7:=fun h=>by have:=block_lt e7;omega
   try replace e7:=(hB.block _ (block_lt e7)).trans e7
   refine kB hK hHeld hB fun hHeld=>?_
   clear hK K
   try simp only[sQ]
   exact M5 _ g6 g7 hHeld m6 m7 n67 e6 e7
 ·skip
  intro wq g6 g7 hHeld m6 m7 n67 e6 e7
  refine rdC 3 rfl (i0.out _ (r7.out.bel hHeld) (T7.out.bel hHeld l7.out)) fun w8 hB hHeld=>?_
  try replace e6:=(hB.block _ (block_lt e6)).trans e6
  try replace e7:=(hB.block _ (block_lt e7)).trans e7
  try simp only[sQ]
  exact M5 _ g6 g7 hHeld m6 m7 n67 e6 e7
 ·skip
  intro wq g6 hHeld m6 e6
  refine rdH 9 rfl fun K hK=>?_
  refine Ze1 rfl 37 rfl z32 Zam ?_
  intro g7 w8 b7 e7 hB
  have m7:=Vx1 hHeld.size b7
  try have n67:g6≠g7:=fun h=>by have:=block_lt e6;omega
  try replace e6:=(hB.block _ (block_lt e6)).trans e6
  refine kB hK hHeld hB fun hHeld=>?_
  clear hK K
  try simp only[sQ]
  exact M6 _ g6 g7 hHeld m6 m7 n67 e6 e7
 ·skip
  intro wq g7 hHeld m7 e7
  refine rdH 8 rfl fun K hK=>?_
  refine Ze1 rfl 37 rfl z32 Zam ?_
  intro g6 w8 b6 e6 hB
  have m6:=Vx1 hHeld.size b6
  try have n67:g6≠g7:=fun h=>by have:=block_lt e7;omega
  try replace e7:=(hB.block _ (block_lt e7)).trans e7
  refine kB hK hHeld hB fun hHeld=>?_
  clear hK K
  try simp only[sQ]
  exact M6 _ g6 g7 hHeld m6 m7 n67 e6 e7
 ·skip
  intro wq g6 g7 hHeld m6 m7 n67 e6 e7
  refine rdC 7 rfl (i1.out _ (r7.out.bel hHeld) (T7.out.bel hHeld l7.out)) fun w8 hB hHeld=>?_
  try replace e6:=(hB.block _ (block_lt e6)).trans e6
  try replace e7:=(hB.block _ (block_lt e7)).trans e7
  try simp only[sQ]
  exact M6 _ g6 g7 hHeld m6 m7 n67 e6 e7
 intro wq g6 g7 hHeld m6 m7 n67 e6 e7
 refine rdH 10 rfl fun K hK=>?_
 refine Zdf rfl 37 (.tmp 7) (.tmp 34) rfl g6 _ rfl rfl 37 z32 e6 (by rw[y0];exact Zai) (by rw[y0];exact z32_size) p0 ?_
 intro w8 d6 hG
 replace e7:=(hG.block _ (block_lt e7) (by simpa using n67.symm)).trans e7
 refine hK.out _ _ (hHeld.grown hG hHeld.size (by intro k hk;injection hk with hk;omega)) fun hHeld=>?_
 clear hK K
 try simp only[sQ]
 refine rdH 11 rfl fun K hK=>?_
 refine Zdf rfl 37 (.tmp 8) (.tmp 38) rfl g7 _ rfl rfl 37 z32 e7 (by rw[y1];exact Zai) (by rw[y1];exact z32_size) p1 ?_
 intro w9 d7 hG
 replace d6:=(hG.block _ (block_lt d6) (by simpa using n67)).trans d6
 refine hK.out _ _ (hHeld.grown hG hHeld.size (by intro k hk;injection hk with hk;omega)) fun hHeld=>?_
 clear hK K
 try simp only[sQ]
 refine dnN ?_
 have hz9:=hid ((hHeld.block _ (block_lt h7.out)).trans h7.out)
 have W9:=hid (W7.out.trans (hHeld.mono W7.out.size))
 have hT9:=hid (T7.out.bel hHeld l7.out)
 have l9:=hid (Vx4 l7.out hHeld.size)
 have D6:=hid (Za4 d6)
 have D7:=hid (Za4 d7)
 clear r7 h7 W7 T7 l7 c0 c1 al7 i0 i1 d6 d7 hHeld
 go_wp2_with fail
 go_still_tail 2,(by kernel_rfl)
 have B2:=(Zad w9 (.cells #[.slice (some ⟨g6,0,none⟩) 32 32,.slice (some ⟨g7,0,none⟩) 32 32] 41)).trans ((Zao (w9.alloc (.cells #[.slice (some ⟨g6,0,none⟩) 32 32,.slice (some ⟨g7,0,none⟩) 32 32] 41))).mono (Zad w9 _).size)
 have hR2:=hid ((hR.out _ _ _ D6.out D7.out).bel (Zao _))
 have hT2:=hid (hT9.out.bel B2 l9.out)
 replace hz9:=hid ((B2.block _ (block_lt hz9.out)).trans hz9.out)
 replace W9:=hid (W9.out.trans (B2.mono W9.out.size))
 clear B2 D6 D7 hT9 hR
 go_wp2_with fail
 refine(hO.out _ _ hR2.out hT2.out).mono ?_
 rintro e w10 ⟨rfl,hb10⟩
 have R3:=hid ((hb10.block _ (block_lt hz9.out)).trans hz9.out)
 have W3:=hid (W9.out.trans (hb10.mono W9.out.size))
 clear hb10
 go_wp2_with (((with_reducible refine stW 4 42 _ 37 z32 ?_ ?_ ?_ ?_ ?_);exact R3.out;(rw[z1];exact Zai);(rw[z1];exact z32_size);exact o1;intro w12 hg4 hb4 hs4))
 refine Vy0 (results_cell_row Tryz.results132 _ _ (w.heap.size+1) 37 _ (0,0) _ rfl hg4 hu rfl (by rw[z1];exact Zai)) rfl ⟨rfl,W3.out.grown hb4 W3.out.size (by intro k hk;injection hk with hk;omega)⟩
theorem Zqa:Slot Tryz.prog Int 327 3 (.int .i64 0) 8 where
 under:=Tryz.underlying327
 info:=by kernel_rfl
 zero:=by decide +kernel
 pos:=by decide
def lenV:Value→Nat
 | .slice _ n _=>n
 |_=>0
theorem YaP{F:Nat→Prop}{w:World}{x:Int}(h:I64 x):Enc.rep F w x [Value.int .i64 x]:=⟨rfl,h⟩
def OnWay(ns:List Nd)(k:Dg)(root:Int)(os:List Int)(m:Int):Prop:=
 os.length≤256∧0≤m∧m≤ns.length∧(∃ b,0≤rgt ns (256-os.length) m b)∧wayP ns k 256 root=((wayP ns k (256-os.length) m).1,os++(wayP ns k (256-os.length) m).2)∧
 (∀ o∈os,0≤o∧o≤ns.length)
theorem Znl{ns:List Nd}{k:Dg}{root:Int}(h0:0≤root)(h1:root≤ns.length)(hr:0≤rgt ns 256 root z0):OnWay ns k root [] root:=
 ⟨by simp,h0,h1,⟨z0,hr⟩,by simp,fun o ho=>by simp at ho⟩
theorem ZrN{ns:List Nd}{k:Dg}{root m:Int}{os:List Int}(h:OnWay ns k root os m)(hf:forkB ns m=false):wayP ns k 256 root=(m,os):=by
 obtain⟨_,_,_,_,h5,_⟩:=h
 have:wayP ns k (256-os.length) m=(m,[]):=by
  by_cases hz:m=0
  ·subst hz;exact ZdE
  ·refine ZeA ?_
   unfold forkB at hf
   rw[Vy2 hz,Bool.true_and]at hf
   simpa using hf
 rw[h5,this,List.append_nil]
theorem ZoP{ns:List Nd}{k:Dg}{root m:Int}{os:List Int}(ho:Ones ns)(h:OnWay ns k root os m)(hf:forkB ns m=true):
  os.length<256∧0<m∧(ndAt ns m).leaf=false∧(kb k.1 os.length=1→OnWay ns k root (os++[(ndAt ns m).l]) (ndAt ns m).r)∧(kb k.1 os.length=0→OnWay ns k root (os++[(ndAt ns m).r]) (ndAt ns m).l):=by
 obtain⟨h1,h2,h3,⟨b,h4⟩,h5,h6⟩:=h
 unfold forkB at hf
 simp only[Bool.and_eq_true,decide_eq_true_eq,Bool.not_eq_true']at hf
 obtain⟨hz,hl⟩:=hf
 obtain⟨f,hf,r1,r2,_,_⟩:=Za2 hz hl h4
 obtain⟨j,hj,rfl,hx,hone⟩:=Zc6 ho (by omega) h3
 rw[hx]at hl
 obtain⟨k1,k2,k3,k4,_⟩:=Ze0 hone hl
 rw[← hx]at k1 k2 k3 k4 hl
 have hlt:os.length<256:=by omega
 have he:256-(os.length+1)=f:=by omega
 have hfd:255-f=os.length:=by omega
 rw[hf,Zgf hz hl,hfd]at h5
 have hq:∀x:Int,(0≤x∧x≤ns.length)→∀o∈os++[x],0≤o∧o≤ns.length:=fun x hx o hm=>by
  rcases List.mem_append.1 hm with h|h
  ·exact h6 o h
  ·simp at h;subst h;exact hx
 refine⟨hlt,by omega,hl,fun hb=>⟨by simp;omega,k3,by omega,⟨_,by rw[Vx3,List.length_singleton,he];exact r2⟩,?_,hq _ ⟨k1,by omega⟩⟩,fun hb=>⟨by simp;omega,k1,by omega,⟨_,by rw[Vx3,List.length_singleton,he];exact r1⟩,?_,hq _ ⟨k3,by omega⟩⟩⟩
 ·rw[h5,if_pos hb,Vx3,List.length_singleton,he];simp
 ·rw[h5,if_neg (by omega),Vx3,List.length_singleton,he];simp
theorem Zn6(F:Nat→Prop)(A:Option Addr)(c:Nat)(ns:List Nd)(root:Int)(k:Dg)(w:World)(hr:Row F w A ns)(hc:ns.length≤1000000)(hm:mayT ⟨ns,root⟩=true):
  Calls Tryz.prog 276 #[.agg #[.slice A ns.length c,.int .i64 root],.agg (k.1.map bv).toArray] w fun e w'=>∃A' c',e=.returned (.tuple #[.int .i64 (wayP ns k 256 root).1,.slice A' (wayP ns k 256 root).2.length c'])∧OwnR 3 w' w.heap.size A' c' (wayP ns k 256 root).2∧Below w.heap.size w w':=by
 obtain⟨-,m1,m2,ho,m3⟩:=ZaX.1 hm
 dsimp only at m1 m2 ho m3
 obtain⟨hb0,hk0,W0⟩:=ZcD w A ns.length c root k 122 37
 have hr0:=hr.bel W0
 have hu:=Tryz.underlying37
 have hut:=Tryz.underlying122
 have hu2:=Tryz.underlying222
 have hiT:=hid (show (Tryz.prog.info? 122).map (·.size)=some ([Value.slice A ns.length c,.int .i64 root]).length from ZbA)
 have hi:=hid (Zaz k)
 have y1:=hb0.rt
 have hB:=fun d (hd:d<256) W=>ZlU k d hd _ W rfl
 have hstart:=hid (Znl (k:=k) m1 m2 m3)
 have hnx:=fun os m=>@ZoP ns k root m os ho
 have hen:=fun os m=>@ZrN ns k root m os
 replace hnx:=hid hnx
 replace hen:=hid hen
 generalize hdk:k.1.map bv=dk at *
 clear hr hm m1 m2 m3 hdk
 go_enter Tryz.func276,Tryz.ntmps276
 go_wp2
 generalize (w.alloc (.cells #[.slice A ns.length c,.int .i64 root] 122)).alloc (.cells dk.toArray 37)=w0 at *
 go_loopw [4,5] (fun v4 v5 wr=>∃(m:Int) (os:List Int) (A5:Option Addr) (c5:Nat),v4=.int .i64 m∧v5=.slice A5 os.length c5∧OwnR 3 wr w0.heap.size A5 c5 os∧OnWay ns k root os m∧Below w0.heap.size w0 wr) (fun _ v5 _=>257-lenV v5)
 case atStart=>exact⟨root,[],none,0,rfl,rfl,OwnR.nil _ _,hstart.out,Below.refl _ _⟩
 case round=>
  obtain⟨m,os,A5,c5,rfl,rfl,hown,hon,hbw⟩:=hrel
  have T1:=hb0.bel hbw
  have k1:=Zab hbw hk0
  have r1:=hr0.bel hbw
  have hm0:=hon.2.1
  have hm1:=hon.2.2.1
  have hF:=fun W hW=>ZsW F A c ns root m W hW hm0 hm1 (by omega)
  cases hfk:forkB ns m with
  |false=>
   have hend:=hid (hen.out os m hon hfk)
   rw[hfk]at hF
   replace hF:=hid hF
   replace hon:=trivial
   have y2:=T1.rt
   go_wp2_with ((with_reducible refine lDr T1.all hiT.out hut ?_))
   refine(hF.out _ r1).mono ?_
   rintro e w2 ⟨rfl,hb2⟩
   have o2:=hid (hown.bel hb2)
   go_wp2
   go_ret2
   rw[hend.out]
   exact⟨A5,c5,rfl,OwnR.base o2.out W0.size,W0.trans ((hbw.trans (hb2.mono hbw.size)).mono W0.size)⟩
  |true=>
   obtain⟨hlt,hm2,hl,n1,n0⟩:=hnx.out os m hon hfk
   rw[hfk]at hF
   replace hF:=hid hF
   replace hon:=trivial
   obtain⟨j,hj,rfl,hx⟩:∃(j:Nat) (hj:j<ns.length),m=(j:Int)+1∧ndAt ns m=ns[j]:=by
    obtain⟨j,rfl⟩:∃j:Nat,m=(j:Int)+1:=⟨(m-1).toNat,by omega⟩
    exact⟨j,by omega,rfl,Zfn (by omega)⟩
   rw[hx]at n1 n0 hl
   obtain⟨q,o,hAe,A',c',hR,hv1,hv2,hv3,hI1,hI2⟩:=Zb7 r1 hj
   subst hAe
   have hRd:=fun W (hW:W.rangeAt q (o+j * 36) (ndC ns[j] A' c'))=>ZgJ q o j ns.length c root ns[j] A' c' W hW hj (by omega)
   have hBt:=hB os.length hlt
   have hbb:=Zeu k.1 os.length
   replace n1:=hid n1
   replace n0:=hid n0
   replace hI1:=hid hI1
   replace hI2:=hid hI2
   clear hnx hen hB hv1 hv2 hv3 hm0 hm1 hm2 hl hx hstart
   generalize ndC ns[j] A' c'=xs at *
   generalize ns[j].l=l at *
   generalize ns[j].r=rr at *
   generalize kb k.1 os.length=bb at *
   replace hR:=hid hR
   replace hRd:=hid hRd
   replace hBt:=hid hBt
   have y2:=T1.rt
   go_wp2_with ((with_reducible refine lDr T1.all hiT.out hut ?_))
   refine(hF.out _ r1).mono ?_
   rintro e w2 ⟨rfl,hb2⟩
   have T2:=T1.bel hb2
   have k2:=Zab hb2 k1
   have R2:=hid (Zab hb2 hR.out)
   have o2:=hid (hown.bel hb2)
   have W2:=hid (hbw.trans (hb2.mono hbw.size))
   have hlo:=hid (Vx1 hbw.size hb2.size)
   have hbk:=hid (o2.out.blk)
   clear T1 k1 r1 hR hown hb2 hF hbw y2
   rcases (show bb=0∨bb=1 by omega) with rfl|rfl
   ·have i1:IntKind.u8.wrap ((1:Int)-0)=1:=by decide
    have hn2:=hid (n0.out rfl)
    go_wp2
    focus
     refine rgB fun hHeld=>?_
     refine' tkM 0 rfl (fun _ h=>Zab h T2.all) hut hiT.out ?_
     refine' tkP 1 rfl ?_
     refine' tkM 3 rfl (fun _ h=>Zab h k2) hu hi.out ?_
     refine' tkP 4 rfl ?_
     simp only[sQ]
     refine' tkP 5 rfl ?_
     simp only[sQ]
     refine Ynx 2 7 rfl rfl (fun K hK=>?_) (fun K hK=>?_)
     focus
      refine clB hK (hRd.out _ (Zab hHeld R2.out)) fun w8 hB hHeld=>?_
      try replace e6:=(hB.block _ (block_lt e6)).trans e6
      clear hK K
      try simp only[sQ]
      refine Ynx 6 7 rfl rfl (fun K hK=>?_) (fun K hK=>?_)
      focus
       refine clB hK (hBt.out _) fun w8 hB hHeld=>?_
       try replace e6:=(hB.block _ (block_lt e6)).trans e6
       clear hK K
       try simp only[sQ]
       refine rdH 7 rfl fun K hK=>?_
       refine Zar rfl 222 rfl z2C ZiX ?_
       intro g6 w8 b6 e6 hB
       have m6:=Vx1 hHeld.size b6
       refine kB hK hHeld hB fun hHeld=>?_
       clear hK K
       try simp only[sQ]
      rotate_left
      focus
       refine Zar rfl 222 rfl z2C ZiX ?_
       intro g6 w8 b6 e6 hB
       have m6:=Vx1 hHeld.size b6
       refine kB hK hHeld hB fun hHeld=>?_
       clear hK K
       try simp only[sQ]
       refine rdC 6 rfl (hBt.out _) fun w8 hB hHeld=>?_
       try replace e6:=(hB.block _ (block_lt e6)).trans e6
       try simp only[sQ]
     rotate_left 2
     focus
      refine Zar rfl 222 rfl z2C ZiX ?_
      intro g6 w8 b6 e6 hB
      have m6:=Vx1 hHeld.size b6
      refine kB hK hHeld hB fun hHeld=>?_
      clear hK K
      try simp only[sQ]
      refine rdC 2 rfl (hRd.out _ (Zab hHeld R2.out)) fun w8 hB hHeld=>?_
      try replace e6:=(hB.block _ (block_lt e6)).trans e6
      try simp only[sQ]
      refine rdC 6 rfl (hBt.out _) fun w8 hB hHeld=>?_
      try replace e6:=(hB.block _ (block_lt e6)).trans e6
      try simp only[sQ]
     all_goals
      refine rdH 8 rfl fun K hK=>?_
      refine Zaj rfl 222 (.tmp 6) (.tmp 16) rfl g6 _ rfl rfl 222 z2C e6 size2 rfl (Yb0 l rr) ?_
      intro w9 d6 hG
      refine hK.out _ _ (hHeld.grown hG hHeld.size (by intro k hk;injection hk with hk;omega)) fun hHeld=>?_
      clear hK K
      try simp only[sQ]
      refine' tkP 9 rfl ?_
      simp only[sQ]
      refine dnN ?_
      have q9:=Zae (l:=[Value.int .i64 l,.int .i64 rr]) d6
      have c0:=q9 1 _ rfl
      rw[Nat.zero_add]at c0
      have o9:=hid (o2.out.bel hHeld)
      have W9:=hid (W2.out.trans (hHeld.mono W2.out.size))
      have lt6:=hid (block_lt d6)
      have lo9:=hid (Vx1 hlo.out hHeld.size)
      clear d6 o2 hHeld R2 T2 k2
      try clear hB
      try clear hG
      try clear e6
      go_wp2_with (first
       |(with_reducible refine ZaC Zqa (by decide) rfl (.tmp 25) rfl [Value.int .i64 rr] rfl rfl ?_)
       |(at_builtin;refine ZbS Zqa rfl (.tmp 21) (.tmp 26) rfl w0.heap.size w0.heap.size A5 _ os.length 1 c5 1 os [rr] (fun _=>False) rfl rfl rfl rfl (o9.out.alloc _) (ZaE (YaP hI2.out)) (fun b hb=>hb.elim) (by have:=hlt;simp only[List.length_singleton];omega) (by have:=lo9.out;rw[Vx2];omega) ?_;intro A6 c6 w11 ho11 hB11 hG11;have q11:=Zak q9 (w':=w11) (fun hl=>(hG11.block g6 (by have:=lt6.out;rw[Vx2];omega) (ZrJ fun a ha=>⟨(hbk.out a ha).1,Vx4 (hbk.out a ha).2 m6⟩)).trans ((Zad w9 (.cells [Value.int .i64 rr].toArray 3)).block g6 hl));have c1:=q11 0 _ rfl;rw[Nat.zero_add]at c1;have ho:=hid ho11;have W11:=hid (W9.out.trans ((((Zad w9 (.cells [Value.int .i64 rr].toArray 3)).mono lo9.out)).trans hB11));clear ho11 hB11 hG11))
      go_roundw
      case rel=>exact⟨l,os++[rr],A6,c6,rfl,(by rw[Vx3];rfl),ho.out,hn2.out,W11.out⟩
      case measure=>simp[lenV];omega
   ·have i1:IntKind.u8.wrap ((1:Int)-1)=0:=by decide
    have hn2:=hid (n1.out rfl)
    go_wp2
    focus
     refine rgB fun hHeld=>?_
     refine' tkM 0 rfl (fun _ h=>Zab h T2.all) hut hiT.out ?_
     refine' tkP 1 rfl ?_
     refine' tkM 3 rfl (fun _ h=>Zab h k2) hu hi.out ?_
     refine' tkP 4 rfl ?_
     simp only[sQ]
     refine' tkP 5 rfl ?_
     simp only[sQ]
     refine Ynx 2 7 rfl rfl (fun K hK=>?_) (fun K hK=>?_)
     focus
      refine clB hK (hRd.out _ (Zab hHeld R2.out)) fun w8 hB hHeld=>?_
      try replace e6:=(hB.block _ (block_lt e6)).trans e6
      clear hK K
      try simp only[sQ]
      refine Ynx 6 7 rfl rfl (fun K hK=>?_) (fun K hK=>?_)
      focus
       refine clB hK (hBt.out _) fun w8 hB hHeld=>?_
       try replace e6:=(hB.block _ (block_lt e6)).trans e6
       clear hK K
       try simp only[sQ]
       refine rdH 7 rfl fun K hK=>?_
       refine Zar rfl 222 rfl z2C ZiX ?_
       intro g6 w8 b6 e6 hB
       have m6:=Vx1 hHeld.size b6
       refine kB hK hHeld hB fun hHeld=>?_
       clear hK K
       try simp only[sQ]
      rotate_left
      focus
       refine Zar rfl 222 rfl z2C ZiX ?_
       intro g6 w8 b6 e6 hB
       have m6:=Vx1 hHeld.size b6
       refine kB hK hHeld hB fun hHeld=>?_
       clear hK K
       try simp only[sQ]
       refine rdC 6 rfl (hBt.out _) fun w8 hB hHeld=>?_
       try replace e6:=(hB.block _ (block_lt e6)).trans e6
       try simp only[sQ]
     rotate_left 2
     focus
      refine Zar rfl 222 rfl z2C ZiX ?_
      intro g6 w8 b6 e6 hB
      have m6:=Vx1 hHeld.size b6
      refine kB hK hHeld hB fun hHeld=>?_
      clear hK K
      try simp only[sQ]
      refine rdC 2 rfl (hRd.out _ (Zab hHeld R2.out)) fun w8 hB hHeld=>?_
      try replace e6:=(hB.block _ (block_lt e6)).trans e6
      try simp only[sQ]
      refine rdC 6 rfl (hBt.out _) fun w8 hB hHeld=>?_
      try replace e6:=(hB.block _ (block_lt e6)).trans e6
      try simp only[sQ]
     all_goals
      refine rdH 8 rfl fun K hK=>?_
      refine Zaj rfl 222 (.tmp 6) (.tmp 16) rfl g6 _ rfl rfl 222 z2C e6 size2 rfl (Yb0 l rr) ?_
      intro w9 d6 hG
      refine hK.out _ _ (hHeld.grown hG hHeld.size (by intro k hk;injection hk with hk;omega)) fun hHeld=>?_
      clear hK K
      try simp only[sQ]
      refine' tkP 9 rfl ?_
      simp only[sQ]
      refine dnN ?_
      have q9:=Zae (l:=[Value.int .i64 l,.int .i64 rr]) d6
      have c0:=q9 0 _ rfl
      rw[Nat.zero_add]at c0
      have o9:=hid (o2.out.bel hHeld)
      have W9:=hid (W2.out.trans (hHeld.mono W2.out.size))
      have lt6:=hid (block_lt d6)
      have lo9:=hid (Vx1 hlo.out hHeld.size)
      clear d6 o2 hHeld R2 T2 k2
      try clear hB
      try clear hG
      try clear e6
      go_wp2_with (first
       |(with_reducible refine ZaC Zqa (by decide) rfl (.tmp 25) rfl [Value.int .i64 l] rfl rfl ?_)
       |(at_builtin;refine ZbS Zqa rfl (.tmp 21) (.tmp 26) rfl w0.heap.size w0.heap.size A5 _ os.length 1 c5 1 os [l] (fun _=>False) rfl rfl rfl rfl (o9.out.alloc _) (ZaE (YaP hI1.out)) (fun b hb=>hb.elim) (by have:=hlt;simp only[List.length_singleton];omega) (by have:=lo9.out;rw[Vx2];omega) ?_;intro A6 c6 w11 ho11 hB11 hG11;have q11:=Zak q9 (w':=w11) (fun hl=>(hG11.block g6 (by have:=lt6.out;rw[Vx2];omega) (ZrJ fun a ha=>⟨(hbk.out a ha).1,Vx4 (hbk.out a ha).2 m6⟩)).trans ((Zad w9 (.cells [Value.int .i64 l].toArray 3)).block g6 hl));have c1:=q11 1 _ rfl;rw[Nat.zero_add]at c1;have ho:=hid ho11;have W11:=hid (W9.out.trans ((((Zad w9 (.cells [Value.int .i64 l].toArray 3)).mono lo9.out)).trans hB11));clear ho11 hB11 hG11))
      go_roundw
      case rel=>exact⟨rr,os++[l],A6,c6,rfl,(by rw[Vx3];rfl),ho.out,hn2.out,W11.out⟩
      case measure=>simp[lenV];omega
theorem Zum(F:Nat→Prop)(A:Option Addr)(c:Nat)(ns:List Nd)(root:Int)(ho:Ones ns)(hc:ns.length≤9223372036854775807):∀(e:Nat) (n:Int) (b:Dg) (w:World),0≤n→n≤ns.length→0≤rgt ns e n b→Row F w A ns→Tab w→
  Calls Tryz.prog 132 #[.agg (smC A ns.length c root noneD).toArray,.int .i64 n] w fun r w'=>r=.returned (.agg ((sumP ns e n).map bv).toArray)∧Below w.heap.size w w':=by
 intro e
 induction e with
 |zero=>
  intro n b w h0 hn hr hrow hT
  by_cases hz:n=0
  ·subst hz
   rw[ZgW]
   exact ZqI A ns.length c root noneD w
  ·cases hl:(ndAt ns n).leaf with
   |true=>
    rw[Zic hz hl]
    obtain⟨j,hj,rfl,hx,hone⟩:=Zc6 ho (by omega) hn
    have hv:=(Zgu hone (by rw[← hx];exact hl)).1
    rw[← hx]at hv
    refine ZqH F A c ns root noneD _ w hrow hc (by omega) hn hl ?_ hT
    unfold valB at hv
    simp at hv
    omega
   |false=>rw[ZcN hz hl]at hr;omega
 |succ e ih=>
  intro n b w h0 hn hr hrow hT
  by_cases hz:n=0
  ·subst hz
   rw[ZgW]
   exact ZqI A ns.length c root noneD w
  ·cases hl:(ndAt ns n).leaf with
   |true=>
    rw[Zic hz hl]
    obtain⟨j,hj,rfl,hx,hone⟩:=Zc6 ho (by omega) hn
    have hv:=(Zgu hone (by rw[← hx];exact hl)).1
    rw[← hx]at hv
    refine ZqH F A c ns root noneD _ w hrow hc (by omega) hn hl ?_ hT
    unfold valB at hv
    simp at hv
    omega
   |false=>
    obtain⟨f,hf,r1,r2,_,_⟩:=Za2 hz hl hr
    obtain rfl:e=f:=by omega
    obtain⟨j,hj,rfl,hx,hone⟩:=Zc6 ho (by omega) hn
    obtain⟨k1,k2,k3,k4,_⟩:=Ze0 hone (by rw[← hx];exact hl)
    rw[← hx]at k1 k2 k3 k4
    rw[Zkk hz hl]
    exact ZxL F A c ns root noneD _ ⟨sumP ns e (ndAt ns ((j:Int)+1)).l,Zbk⟩ ⟨sumP ns e (ndAt ns ((j:Int)+1)).r,Zbk⟩ w hrow hc (by omega) hn hl hT
     (fun W hW hTW=>ih _ _ W k1 (by omega) r1 hW hTW) (fun W hW hTW=>ih _ _ W k3 (by omega) r2 hW hTW)
def sumM(t:Tr):Dg:=if mayT t=true then ⟨sumP t.ns 256 t.root,Zbk⟩ else z0
theorem Ycy(w:World)(A:Option Addr)(n c:Nat)(root:Int):
  BoxT ((w.alloc (.cells #[.slice A n c,.int .i64 root] 24)).alloc (.cells z32 37)) w.heap.size A n c root∧
  ((w.alloc (.cells #[.slice A n c,.int .i64 root] 24)).alloc (.cells z32 37)).heap[w.heap.size+1]? =some (.cells z32 37)∧
  Below w.heap.size w ((w.alloc (.cells #[.slice A n c,.int .i64 root] 24)).alloc (.cells z32 37)):=by
 have h2:=Vx0 (w.alloc (.cells #[.slice A n c,.int .i64 root] 24)) (.cells z32 37)
 rw[Vx2]at h2
 exact⟨(BoxT.new w A n c root _).bel (Zad _ _),h2,Zag (Zad _ _) (Zad _ _)⟩
theorem ZdP(F:Nat→Prop)(A:Option Addr)(c:Nat)(ns:List Nd)(root:Int)(w:World)(hr:Row F w A ns)(hc:ns.length≤1000000)(hT:Tab w):
  Calls Tryz.prog 88 #[.agg #[.slice A ns.length c,.int .i64 root]] w fun e w'=>e=.returned (.tuple #[.agg ((sumM ⟨ns,root⟩).1.map bv).toArray,.int .i64 (if mayT ⟨ns,root⟩=true then 0 else 8)])∧Below w.heap.size w w':=by
 obtain⟨T0,h1,W0⟩:=Ycy w A ns.length c root
 have hr0:=hr.bel W0
 have hut:=Tryz.underlying24
 have hiT:=hid (show (Tryz.prog.info? 24).map (·.size)=some ([Value.slice A ns.length c,.int .i64 root]).length from Zah)
 obtain⟨m,hm⟩:∃m,mayT ⟨ns,root⟩=m:=⟨_,rfl⟩
 have hC:=hid (fun W hW=>ZdG F A c ns root m W hW (by omega) hm)
 have hz:=hid (show Tryz.prog.built 37 []=some (z0.1.map bv).toArray by kernel_rfl)
 have zz:=Zay z0.1
 have zs:((z0.1.map bv).toArray).size=32:=by simp[z0.2]
 have zd:((sumM ⟨ns,root⟩).1.map bv).toArray.size=32:=by simp[(sumM ⟨ns,root⟩).2]
 have zo:=Zay (sumM ⟨ns,root⟩).1
 replace h1:=hid h1
 rw[hm]
 cases m with
 |false=>
  rw[show sumM ⟨ns,root⟩=z0 by unfold sumM;rw[hm];rfl]
  clear zd zo
  generalize z0.1.map bv=dz at *
  go_enter Tryz.func88,Tryz.ntmps88
  go_wp2_with (first
   |(with_reducible refine Zac rfl 37 rfl z32 Zam ?_)
   |(with_reducible refine lDr T0.all hiT.out hut ?_))
  generalize (w.alloc (.cells #[.slice A ns.length c,.int .i64 root] 24)).alloc (.cells z32 37)=w0 at *
  refine(hC.out _ hr0).mono ?_
  rintro e w2 ⟨rfl,hb⟩
  have h2:=hid ((hb.block _ (block_lt h1.out)).trans h1.out)
  have W2:=hid (W0.trans (hb.mono W0.size))
  go_wp2_with (first
   |((with_reducible refine Zaf rfl 37 _ rfl dz.toArray [] ?_ ?_ ?_);exact hz.out;rfl)
   |((with_reducible refine stW 2 9 (w.heap.size+1) 37 z32 ?_ ?_ ?_ ?_ ?_);exact h2.out;(rw[zs];exact Zai);(rw[zs];exact z32_size);exact zz;intro w3 hg3 hb3 hs3))
  exact Vy0 (ZcM rfl _ _ (w.heap.size+1) _ rfl hg3 zs) rfl ⟨rfl,W2.out.grown hb3 W2.out.size (fun g e=>by injection e with e;omega)⟩
 |true=>
  obtain⟨-,m1,m2,ho,m3⟩:=ZaX.1 hm
  dsimp only at m1 m2 ho m3
  have hNs:=hid (fun W hTW=>ZiM A ns.length c root W hTW)
  have hSm:=fun W hW hTW=>Zum F A c ns root ho (by omega) 256 root z0 W m1 m2 m3 hW hTW
  rw[show sumP ns 256 root=(sumM ⟨ns,root⟩).1 by unfold sumM;rw[hm];rfl]at hSm
  generalize sumM ⟨ns,root⟩=S at *
  generalize smC A ns.length c root noneD=cs at *
  replace hSm:=hid hSm
  clear zz zs
  go_enter Tryz.func88,Tryz.ntmps88
  go_wp2_with (first
   |(with_reducible refine Zac rfl 37 rfl z32 Zam ?_)
   |(with_reducible refine lDr T0.all hiT.out hut ?_))
  generalize (w.alloc (.cells #[.slice A ns.length c,.int .i64 root] 24)).alloc (.cells z32 37)=w0 at *
  refine(hC.out _ hr0).mono ?_
  rintro e w2 ⟨rfl,hb⟩
  have T2:=T0.bel hb
  have h2:=hid ((hb.block _ (block_lt h1.out)).trans h1.out)
  have W2:=hid (W0.trans (hb.mono W0.size))
  have hs2:=hid (block_lt h2.out)
  have hTx:=fun (x:World) (h:Below (w.heap.size+1) w2 x)=>hT.bel (W2.out.trans (h.mono (Nat.le_succ _))) hT.low
  have hRx:=fun (x:World) (h:Below (w.heap.size+1) w2 x)=>hr.bel (W2.out.trans (h.mono (Nat.le_succ _)))
  replace hTx:=hid hTx
  replace hRx:=hid hRx
  clear T0 hr0 h1 hb W0 hT hr
  have e1:=h2.out
  go_wp2
  refine wp_region_noPanic ?_
  refine wp_region_held_drew (S:=fun w'=>Below (w.heap.size+1) w2 w') (by kernel_rfl) ?_ (fun hHeld=>?_)
  ·exact(Zao w2).mono (Nat.le_of_lt hs2.out)
  refine' tkM 0 rfl (fun _ h=>Zak T2.all (fun _=>h.block _ (Nat.lt_succ_self _))) hut hiT.out ?_
  refine' tkP 2 rfl ?_
  refine' tkF 3 (fun W hSw=>(hSw.cell (Nat.lt_succ_self _)).trans T2.rt) rfl ?_
  simp only[sQ]
  refine rdH 1 rfl fun K hK=>?_
  go_simp
  refine(hNs.out _ (hTx.out _ hHeld)).mono ?_
  rintro e5 w5 ⟨rfl,hB⟩
  replace e1:=(hB.block _ (block_lt e1)).trans e1
  go_wp2_with fail
  refine hK.out _ _ (hHeld.trans (hB.mono (Vx1 (Nat.le_of_lt hs2.out) hHeld.size))) fun hHeld=>?_
  clear hK K
  try simp only[sQ]
  refine rdH 4 rfl fun K hK=>?_
  go_simp
  refine(hSm.out _ (hRx.out _ hHeld) (hTx.out _ hHeld)).mono ?_
  rintro e6 w6 ⟨rfl,hB⟩
  replace e1:=(hB.block _ (block_lt e1)).trans e1
  go_wp2_with fail
  refine hK.out _ _ (hHeld.trans (hB.mono (Vx1 (Nat.le_of_lt hs2.out) hHeld.size))) fun hHeld=>?_
  clear hK K
  try simp only[sQ]
  refine rdH 5 rfl fun K hK=>?_
  refine Zdf rfl 37 (.tmp 2) (.tmp 15) rfl (w.heap.size+1) _ rfl rfl 37 z32 e1 (by rw[zd];exact Zai) (by rw[zd];exact z32_size) zo ?_
  intro w8 d6 hG
  refine hK.out _ _ (hHeld.grown hG (Vx1 (Nat.le_of_lt hs2.out) hHeld.size) (fun g e=>by injection e with e;omega)) fun hHeld=>?_
  clear hK K
  try simp only[sQ]
  refine' tkP 6 rfl ?_
  simp only[sQ]
  refine dnN ?_
  go_wp2
  refine Vy0 (ZcM rfl _ _ (w.heap.size+1) _ rfl d6 zd) rfl ⟨rfl,W2.out.trans (hHeld.mono (Nat.le_succ _))⟩
end Go.Proofs.YtnnclggeifnomaaGreatDoor
