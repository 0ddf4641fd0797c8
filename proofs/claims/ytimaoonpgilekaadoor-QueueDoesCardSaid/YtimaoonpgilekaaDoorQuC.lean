import Derived.Test.YtimaoonpgilekaaDoorQuB
set_option linter.all false
namespace Go.Proofs.YtimaoonpgilekaaDoor
open Go.RowKit
set_option maxRecDepth 100000
theorem Ypa{fn:Func}{p r s:Tmp}{ty:TypeId}(h:fn.results=#[.cell p ty,.tmp r,.tmp s])(tmps:Array Value)(w:World)(g:Nat)(t:TypeId)(cs:Array Value)(fr:Nat×Nat)(d:TypeDesc)(v u:Value)
  (hp:tmps.getD p undef=.pointer (some ⟨g,0,none⟩)) (hv:tmps.getD r undef=v) (hv2:tmps.getD s undef=u) (hg:w.heap[g]? =some (.cells cs t fr))
  (hd:(match d with| .struct _| .array _ _=>true|_=>false)=true) (hu:Tryd.prog.underlying ty=some d) (hi:(Tryd.prog.info? ty).map (·.size)=some cs.size):
  (results fn tmps).run Tryd.prog w=.ok (.tuple #[.agg cs,v,u]) w:=by
 have hp':tmps[p]?.getD undef=.pointer (some ⟨g,0,none⟩):=by simpa using hp
 have hv':tmps[r]?.getD undef=v:=by simpa using hv
 have hv2':tmps[s]?.getD undef=u:=by simpa using hv2
 have h2:=run_loadVar_row (P:=Tryd.prog) w g t ty cs fr d hg hu (by cases d<;>first|exact hd|rfl) hi
 simp[results,h,hp',hv',hv2',asAddr,h2]
theorem OwnQ.keptAtQ{α:Type}[Enc α]{E:TypeId}{w w':World}{B0 B g:Nat}{A:Option Addr}{c:Nat}{xs:List α}(h:OwnQ E w B0 B A c xs)(hg:w.grownBy w' (some g))(h0:g<B0)(h1:g<B):OwnQ E w' B0 B A c xs:=
 h.keptL (fun b hl hne=>hg.block b hl fun e=>hne (by injection e)) h0 h1
theorem YpK{l:Ln}{n:Nat}(h:mayL l=false):pastL l n=zL∧pastG l n=[]∧checkL l=8:=by
 unfold pastL pastG checkL
 rw[if_neg (by rw[h];simp),if_neg (by rw[h];simp),if_neg (by rw[h];simp)];exact⟨rfl,rfl,rfl⟩
theorem Yph{l:Ln}{n:Nat}(h:mayL l=true):pastL l n=⟨l.d,l.xs.drop (cntN l.xs n)⟩∧pastG l n=l.xs.take (cntN l.xs n)∧checkL l=0:=by
 unfold pastL pastG checkL
 rw[if_pos h,if_pos h,if_pos h];exact⟨rfl,rfl,rfl⟩
def LnQ(w:World)(L:Ln)(G:List Tx)(E:Int)(e:Ending)(w':World):Prop:=
 ∃A' c' D' e',e=.returned (.tuple #[.agg (lnC L.d A' L.xs.length c').toArray,.slice D' G.length e',.int .i64 E])∧OwnR 33 w' w.heap.size A' c' L.xs∧OwnR 33 w' w.heap.size D' e' G∧Below w.heap.size w w'
set_option maxHeartbeats 4000000 in
theorem Ypt(F:Nat→Prop)(d:Dg)(A:Option Addr)(c n:Nat)(xs:List Tx)(w:World)(hr:Row F w A xs)(hc:xs.length≤1000000)(hcc:xs.length≤c)(hT:Tab w):
  Calls Tryd.prog 18 #[.agg (lnC d A xs.length c).toArray,.int .u64 (n:Int)] w (LnQ w (pastL ⟨d,xs⟩ n) (pastG ⟨d,xs⟩ n) (checkL ⟨d,xs⟩)):=by
 have hul:=Tryd.underlying26
 have hu:=Tryd.underlying23
 have e1:=Zad w (.cells (lnC d A xs.length c).toArray 26)
 have e2:=Zad (w.alloc (.cells (lnC d A xs.length c).toArray 26)) (.cells zLnC 26)
 have z0:=Vx0 w (.cells (lnC d A xs.length c).toArray 26)
 replace z0:=(e2.block _ (block_lt z0)).trans z0
 have z1:=Vx0 (w.alloc (.cells (lnC d A xs.length c).toArray 26)) (.cells zLnC 26)
 have s2:((w.alloc (.cells (lnC d A xs.length c).toArray 26)).alloc (.cells zLnC 26)).heap.size=w.heap.size+1+1:=by simp only[Vx2]
 rw[Vx2]at z1
 have W0:=hid (Zag e1 e2)
 have X0:=hid (Zae z0)
 have R:=hid hr
 have R0:=hid (hr.bel W0.out)
 have T0:=hid (hT.bel W0.out hT.low)
 have hlow:=hid hT.low
 have hC:=hid (fun W (h:Row F W A xs) hW=>Ypb F d A c xs W h hc hW)
 have hBy:=hid (fun W=>Ypm d A xs.length c W)
 have jl:=hid (fun A n c=>YoL d A n c)
 have jz:=hid (fun A n c=>YoL zL.d A n c)
 have zl:=hid (fun A n c=>YoY d A n c)
 have ol:=hid (fun A n c=>YoZ d A n c)
 have oz:=hid (YoZ zL.d none 0 0)
 have hbx:=hid (fun (W:World) (h:W.rangeAt w.heap.size 0 (lnC d A xs.length c))=>(⟨(BoxL.of h).d,(BoxL.of h).x⟩:W.rangeAt w.heap.size 0 (d.1.map bv)∧W.cell? ⟨w.heap.size,32,none⟩=some (.slice A xs.length c)))
 have bl:=hid (fun A n c=>YoN d A n c)
 replace z0:=hid z0
 replace z1:=hid z1
 replace s2:=hid s2
 clear e1 e2 hr hT
 cases hm:mayL ⟨d,xs⟩
 ·obtain⟨p1,p2,p3⟩:=YpK (n:=n) hm
  rw[p1,p2,p3]
  rw[p3]at hC
  clear hm p1 p2 p3 hBy
  replace jl:=hid (jl.out A xs.length c)
  generalize lnC d A xs.length c=cl at *
  go_enter Tryd.func18,Tryd.ntmps18
  go_wp2_with (first
   |(with_reducible refine Zac rfl 26 rfl zLnC YoX ?_)
   |(with_reducible refine lDr X0.out jl.out hul ?_))
  refine(hC.out _ R0.out T0.out).mono ?_
  rintro e w3 ⟨rfl,hb3⟩
  have W3:=hid (W0.out.trans (hb3.mono W0.out.size))
  have z3:=hid ((hb3.block _ (block_lt z1.out)).trans z1.out)
  go_wp2_with (first
   |((with_reducible refine Zaf rfl 26 _ rfl zLnC [] ?_ ?_ ?_);exact YoF;rfl)
   |((with_reducible refine stW 4 14 (w.heap.size+1) 26 zLnC ?_ ?_ ?_ ?_ ?_);exact z3.out;exact jz.out none 0 0;rfl;exact oz.out;intro w6 hg6 hb6 hs6))
  refine Vy0 (v:=.tuple #[.agg zLnC,.slice none 0 0,.int .i64 8]) ?_ rfl ⟨none,0,none,0,rfl,OwnR.nil _ _,OwnR.nil _ _,W3.out.grown hb6 W3.out.size (fun g e=>by injection e with e;omega)⟩
  exact Ypa Tryd.results18 _ _ (w.heap.size+1) 26 _ (0,0) _ _ _ rfl rfl rfl hg6 rfl hul (jz.out none 0 0)
 ·obtain⟨p1,p2,p3⟩:=Yph (n:=n) hm
  rw[p1,p2,p3]
  rw[p3]at hC
  have hso:=(Yn2 hm).2.1
  have hfd:=hid (fun W (h:Row F W A xs)=>Ypl F A c n xs W h hso hc)
  have hkl:=Ypi xs n
  show Calls Tryd.prog 18 #[.agg (lnC d A xs.length c).toArray,.int .u64 (n:Int)] w (LnQ w ⟨d,xs.drop (cntN xs n)⟩ (xs.take (cntN xs n)) 0)
  generalize hasN xs n=hv at *
  generalize cntN xs n=k at *
  have hsl:=hid (fun W=>Zc7 slotTxQ A xs.length c k hkl W)
  have hsu:=hid (fun W=>Zcl slotTxQ A xs.length c k (Vx1 hkl hcc) W)
  have hld:(xs.drop k).length=xs.length-k:=List.length_drop ..
  have hlt:(xs.take k).length=k:=by rw[List.length_take];omega
  have hTw:=hid (fun W (h:Row F W A xs)=>by
   have:=YpJ F d (cutA A c k (Enc.size Tx)) (c-k) (xs.drop k) W (h.cut k c hkl hcc) (by rw[hld];omega)
   rw[hld]at this
   exact this)
  have hCl:=hid (fun W (h:Row F W A xs)=>by
   have:=Yow F A c (xs.take k) W (h.take k) (by rw[hlt];omega)
   rw[hlt]at this
   exact this)
  unfold LnQ
  rw[hlt]
  dsimp only
  rw[hld]
  clear p1 p2 p3 hm hso hld hlt
  have jl0:=hid (jl.out A xs.length c)
  have jd:=hid (ZaF d)
  have bl2:=hid (bl.out (cutA A c k (Enc.size Tx)) (xs.length-k) (c-k))
  clear bl
  obtain⟨m,hml⟩:∃m,xs.length-k=m:=⟨_,rfl⟩
  rw[hml]at hsl hTw bl2 ⊢
  replace hml:=hid hml
  replace hkl:=hid hkl
  generalize lnC d A xs.length c=cl at *
  generalize d.1.map bv=cd at *
  go_enter Tryd.func18,Tryd.ntmps18
  go_wp2_with (first
   |(with_reducible refine Zac rfl 26 rfl zLnC YoX ?_)
   |(with_reducible refine lDr X0.out jl0.out hul ?_))
  refine(hC.out _ R0.out T0.out).mono ?_
  rintro e w3 ⟨rfl,hb3⟩
  have W3:=hid (W0.out.trans (hb3.mono W0.out.size))
  have z3:=hid ((hb3.block _ (block_lt z1.out)).trans z1.out)
  have X3:=hid (Zab hb3 X0.out)
  have R3:=hid (R0.out.bel hb3)
  clear hb3 z1 X0 R0 T0 W0 hC
  go_wp2_with ((with_reducible refine lDr X3.out jl0.out hul ?_))
  refine(hBy.out _).mono ?_
  rintro e w4 ⟨rfl,hb4⟩
  have W4:=hid (W3.out.trans (hb4.mono W3.out.size))
  have z4:=hid ((hb4.block _ (block_lt z3.out)).trans z3.out)
  have X4:=hid (Zab hb4 X3.out)
  have R4:=hid (R3.out.bel hb4)
  clear hb4 z3 X3 R3 W3 hBy
  go_wp2_with fail
  refine(hfd.out _ R4.out).mono ?_
  rintro e w5 ⟨rfl,hb5⟩
  have W5:=hid (W4.out.trans (hb5.mono W4.out.size))
  have z5:=hid ((hb5.block _ (block_lt z4.out)).trans z4.out)
  have X5:=hid (Zab hb5 X4.out)
  have R5:=hid (R4.out.bel hb5)
  have s5:=hid (show w.heap.size+1<w5.heap.size from block_lt z5.out)
  clear hb5 z4 X4 R4 W4 hfd
  go_wp2
  refine wp_region_noPanic ?_
  refine wp_region_held_drew (S:=fun W=>Below w.heap.size w W∧W.rangeAt w.heap.size 0 cl) (by kernel_rfl) ?_ (fun hHeld=>?_)
  ·exact⟨W5.out.trans ((Zao w5).mono W5.out.size),Zab (Zao w5) X5.out⟩
  refine' tkP 0 rfl ?_
  refine' tkM 1 rfl (fun _ h=>(hbx.out _ h.2).1) hu jd.out ?_
  refine' tkP 2 rfl ?_
  refine' tkF 3 (fun W hSw=>(hbx.out _ hSw.2).2) rfl ?_
  simp only[sQ]
  refine' tkP 4 rfl ?_
  simp only[sQ]
  refine' tkH 5 rfl (Yb2 (by rfl) _ _ _ _ _ rfl _ _ _ _ _ (hsl.out) rfl rfl rfl rfl) ?_
  simp only[sQ]
  refine' tkH 6 rfl (Yb1 (by rfl) _ _ rfl _ _ (bl2.out) rfl) ?_
  simp only[sQ]
  refine rdH 7 rfl fun K hK=>?_
  go_simp
  refine(hTw.out _ (R.out.bel hHeld.1)).mono ?_
  rintro e v7 ⟨A7,c7,rfl,o7,hB⟩
  have z7:=hid ((hB.block _ (block_lt (show w5.drew.heap[w.heap.size+1]? =_ from z5.out))).trans z5.out)
  go_wp2_with fail
  refine hK.out _ _ (⟨hHeld.1.trans (hB.mono hHeld.1.size),Zab hB hHeld.2⟩) fun hHeld=>?_
  clear hK K
  try simp only[sQ]
  refine rdH 8 rfl fun K hK=>?_
  refine Zaj rfl 26 (.tmp 4) (.tmp 30) rfl (w.heap.size+1) _ rfl rfl 26 zLnC z7.out (jl.out _ _ _) (zl.out _ _ _) (ol.out _ _ _) ?_
  intro w8 d8 hG8
  have O8:=hid (OwnQ.keptAtQ o7 hG8 s5.out s5.out)
  refine hK.out _ _ (⟨hHeld.1.grown hG8 hHeld.1.size (fun g e=>by injection e with e;omega),Zak hHeld.2 (fun hb=>hG8.block _ hb (by simp))⟩) fun hHeld=>?_
  clear hK K
  try simp only[sQ]
  refine dnN ?_
  have W8:=hid hHeld.1
  have X8:=hid hHeld.2
  have z8:=hid d8
  have Z8:=hid (Zae d8)
  clear hHeld d8 hG8 o7 z7
  go_wp2
  refine wp_region_noPanic ?_
  refine wp_region_held_drew (S:=fun W=>Below w.heap.size w W∧W.rangeAt w.heap.size 0 cl∧W.rangeAt (w.heap.size+1) 0 (lnC d A7 m c7)) (by kernel_rfl) ?_ (fun hHeld=>?_)
  ·exact⟨W8.out.trans ((Zao w8).mono W8.out.size),Zab (Zao w8) X8.out,Zab (Zao w8) Z8.out⟩
  refine' tkM 0 rfl (fun _ h=>h.2.2) hul (jl.out _ _ _) ?_
  refine' tkP 1 rfl ?_
  refine' tkF 2 (fun W hSw=>(hbx.out _ hSw.2.1).2) rfl ?_
  refine' tkP 3 rfl ?_
  simp only[sQ]
  refine' tkH 4 rfl (Yb2 (by rfl) _ _ _ _ _ rfl _ _ _ _ _ (hsu.out) rfl rfl rfl rfl) ?_
  simp only[sQ]
  refine rdH 5 rfl fun K hK=>?_
  go_simp
  refine(hCl.out _ (R.out.bel hHeld.1)).mono ?_
  rintro e v9 ⟨A9,c9,rfl,o9,hB⟩
  have z9:=hid ((hB.block _ (block_lt (show w8.drew.heap[w.heap.size+1]? =_ from z8.out))).trans z8.out)
  have O9:=hid ((O8.out.bel (Zao w8)).bel hB)
  have s9:=hid (show w.heap.size+1<w8.drew.heap.size from block_lt (show w8.drew.heap[w.heap.size+1]? =_ from z8.out))
  go_wp2_with fail
  refine hK.out _ _ (⟨hHeld.1.trans (hB.mono hHeld.1.size),Zab hB hHeld.2.1,Zab hB hHeld.2.2⟩) fun hHeld=>?_
  clear hK K
  try simp only[sQ]
  refine rdH 6 rfl fun K hK=>?_
  refine Zaj rfl 26 (.tmp 4) (.tmp 31) rfl (w.heap.size+1) _ rfl rfl 26 _ z9.out (jl.out _ _ _) rfl (ol.out _ _ _) ?_
  intro wA dA hGA
  have OA:=hid (OwnQ.keptAtQ O9.out hGA s5.out s5.out)
  have PA:=hid (OwnQ.keptAtQ o9 hGA s9.out s9.out)
  refine hK.out _ _ (⟨hHeld.1.grown hGA hHeld.1.size (fun g e=>by injection e with e;omega),Zak hHeld.2.1 (fun hb=>hGA.block _ hb (by simp)),Zae dA⟩) fun hHeld=>?_
  clear hK K
  try simp only[sQ]
  refine' tkW 7 8 ?_
  simp only[sQ]
  refine dnN ?_
  go_wp2
  refine Vy0 (v:=.tuple #[.agg (lnC d A7 m c7).toArray,.slice A9 k c9,.int .i64 0]) ?_ rfl ⟨A7,c7,A9,c9,rfl,OwnR.base OA.out ?_,OwnR.base PA.out ?_,hHeld.1⟩
  ·exact Ypa Tryd.results18 _ _ (w.heap.size+1) 26 _ (0,0) _ _ _ rfl rfl rfl dA rfl hul (jl.out _ _ _)
  ·show w.heap.size≤w5.heap.size
   have:=s5.out;omega
  ·have:=s9.out;omega
end Go.Proofs.YtimaoonpgilekaaDoor
