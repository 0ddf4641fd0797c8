import Derived.Test.YtimaoonpgilekaaDoorQuC
import Derived.Test.YtimaoonpgilekaaDoorCatT
import Derived.Test.YtimaoonpgilekaaDoorCutsB
set_option linter.all false
namespace Go.Proofs.YtimaoonpgilekaaDoor
open Go.RowKit
set_option maxRecDepth 100000
theorem YpE{P:Program}{α:Type}[Enc α]{S E:TypeId}{z:Value}{bytes:Nat}(hS:Slot P α S E z bytes){w:World}{ops:Array Oper}{o:Oper}{a:Act}{K:Act→World→Prop}{Q:Exit→Act→World→Prop}{X:Prop}(hg:o.guard=none)
  (n:Nat) (parts:Array (Nat×Operand)) (hop:o.op=.buildSlice S n parts) (css:List (List Value)) (vs:List Value) (hn:css.length=n) (h0:0<n) (hsm:n * Enc.size α≤16777216) (hl:∀cs∈css,cs.length=Enc.size α) (hvs:vs.map (·.cells)=css.map (·.toArray))
  (hp:parts.toList.map (fun (i,x)=>(i,a.eval x))=(vs.zipIdx 0).map fun x=>(x.2,x.1))
  (hK:K (a.put o.dst (.slice (some ⟨w.heap.size,0,none⟩) n n)) (w.alloc (.cells css.flatten.toArray E))):if Region.wanted o (yielded ops a.tmps)=true then Oper.wp P o a w K Q else X:=by
 have hw:Region.wanted o (yielded ops a.tmps)=true:=by simp[Region.wanted,hg]
 rw[if_pos hw]
 have he:(parts.map fun (i,x)=>(i,a.eval x))=((vs.zipIdx 0).map fun x=>(x.2,x.1)).toArray:=by
  apply Array.ext'
  rw[Array.toList_map,hp]
 unfold Oper.wp execOp
 simp only[hop,he,Sem.run_bind,Zfg hS n css hn h0 hsm hl vs hvs w,Result.andThen_ok]
 exact hK
theorem Yqm:Slot Tryd.prog (List Tx) 80 24 (.slice none 0 0) 24 where
 under:=Tryd.underlying80
 info:=by kernel_rfl
 zero:=rfl
 pos:=by decide
theorem YpU{w:World}{E:TypeId}{A1 A2 A3:Option Addr}{c1 c2 c3:Nat}{l1 l2 l3:List Tx}(h1:Row (fun _=>True) w A1 l1)(h2:Row (fun _=>True) w A2 l2)(h3:Row (fun _=>True) w A3 l3)
  (k1:l1.length≤c1∧c1≤maxLen) (k2:l2.length≤c2∧c2≤maxLen) (k3:l3.length≤c3∧c3≤maxLen):
  Row (fun _=>True) (w.alloc (.cells ([[Value.slice A1 l1.length c1],[.slice A2 l2.length c2],[.slice A3 l3.length c3]]:List (List Value)).flatten.toArray E)) (some ⟨w.heap.size,0,none⟩) [l1,l2,l3]:=by
 intro _
 have hb:=Zad w (.cells ([[Value.slice A1 l1.length c1],[.slice A2 l2.length c2],[.slice A3 l3.length c3]]:List (List Value)).flatten.toArray E)
 have hr:(w.alloc (.cells ([[Value.slice A1 l1.length c1],[.slice A2 l2.length c2],[.slice A3 l3.length c3]]:List (List Value)).flatten.toArray E)).rangeAt w.heap.size 0 [Value.slice A1 l1.length c1,.slice A2 l2.length c2,.slice A3 l3.length c3]:=Zae (Vx0 w _)
 refine⟨w.heap.size,0,rfl,trivial,by simp,fun j x hx=>?_⟩
 have hE:Enc.size (List Tx)=1:=rfl
 rw[hE,Nat.mul_one,Nat.zero_add]
 have hs:∀(v:Value),[Value.slice A1 l1.length c1,.slice A2 l2.length c2,.slice A3 l3.length c3][j]? =some v→(w.alloc (.cells ([[Value.slice A1 l1.length c1],[.slice A2 l2.length c2],[.slice A3 l3.length c3]]:List (List Value)).flatten.toArray E)).rangeAt w.heap.size j [v]:=fun v hv i u hu=>by
  rcases i with _|i
  ·simp at hu;subst hu
   have:=hr j v hv
   rw[Nat.zero_add]at this
   exact this
  ·simp at hu
 match j,hx with
 |0,hx=>simp at hx;subst hx;exact⟨_,⟨A1,c1,rfl,k1.1,k1.2,h1.bel hb⟩,hs _ rfl⟩
 |1,hx=>simp at hx;subst hx;exact⟨_,⟨A2,c2,rfl,k2.1,k2.2,h2.bel hb⟩,hs _ rfl⟩
 |2,hx=>simp at hx;subst hx;exact⟨_,⟨A3,c3,rfl,k3.1,k3.2,h3.bel hb⟩,hs _ rfl⟩
 |j+3,hx=>simp at hx
theorem YpN{w:World}{E:TypeId}(x:Tx)(hx:x.ok):Row (fun _=>True) (w.alloc (.cells (txC x).toArray E)) (some ⟨w.heap.size,0,none⟩) [x]:=by
 intro _
 refine⟨w.heap.size,0,rfl,trivial,by simp,fun j y hy=>?_⟩
 rcases j with _|j
 ·simp at hy;subst hy
  refine⟨txC x,YoS x hx,?_⟩
  rw[Nat.zero_mul,Nat.add_zero]
  exact Zae (Vx0 w _)
 ·simp at hy
theorem Yp3:1≤maxLen:=by unfold maxLen;decide
theorem Ypw{w:World}{ops:Array Oper}{o:Oper}{a:Act}{K:Act→World→Prop}{Q:Exit→Act→World→Prop}{X:Prop}(hg:o.guard=none)(y:Operand)(hop:o.op=.buildSlice 24 1 #[(0,y)])(t:Tx)(ht:t.ok)(cs:List Value)(hcs:cs=txC t)(hy:a.eval y=.agg cs.toArray)
  (hK:∀g w',Row (fun _=>True) w' (some ⟨g,0,none⟩) [t]→Below w.heap.size w w'→K (a.put o.dst (.slice (some ⟨g,0,none⟩) 1 1)) w'):if Region.wanted o (yielded ops a.tmps)=true then Oper.wp Tryd.prog o a w K Q else X:=by
 subst hcs
 exact ZbE slotTxQ (by decide) hg y hop (txC t) (by rw[hy];rfl) (ZgR t) (hK _ _ (YpN t ht) (Zad _ _))
theorem Ypn{w:World}{ops:Array Oper}{o:Oper}{a:Act}{K:Act→World→Prop}{Q:Exit→Act→World→Prop}{X:Prop}(hg:o.guard=none)(y1 y2 y3:Operand)(hop:o.op=.buildSlice 80 3 #[(0,y1),(1,y2),(2,y3)])
  {A1 A2 A3:Option Addr} {n1 n2 n3 c1 c2 c3:Nat} (l1 l2 l3:List Tx) (e1:l1.length=n1) (e2:l2.length=n2) (e3:l3.length=n3) (hy1:a.eval y1=.slice A1 n1 c1) (hy2:a.eval y2=.slice A2 n2 c2) (hy3:a.eval y3=.slice A3 n3 c3)
  (h1:Row (fun _=>True) w A1 l1) (h2:Row (fun _=>True) w A2 l2) (h3:Row (fun _=>True) w A3 l3) (k1:n1≤c1∧c1≤maxLen) (k2:n2≤c2∧c2≤maxLen) (k3:n3≤c3∧c3≤maxLen)
  (hK:∀g w',Row (fun _=>True) w' (some ⟨g,0,none⟩) [l1,l2,l3]→Below w.heap.size w w'→K (a.put o.dst (.slice (some ⟨g,0,none⟩) 3 3)) w'):if Region.wanted o (yielded ops a.tmps)=true then Oper.wp Tryd.prog o a w K Q else X:=by
 subst e1 e2 e3
 exact YpE Yqm hg 3 _ hop [[.slice A1 l1.length c1],[.slice A2 l2.length c2],[.slice A3 l3.length c3]] [.slice A1 l1.length c1,.slice A2 l2.length c2,.slice A3 l3.length c3] rfl (by decide) (by decide) (by
  intro cs hcs
  simp only[List.mem_cons,List.not_mem_nil,or_false]at hcs
  rcases hcs with rfl|rfl|rfl<;>rfl) rfl (by simp[hy1,hy2,hy3]) (hK _ _ (YpU h1 h2 h3 k1 k2 k3) (Zad _ _))
theorem Ypr{w w':World}{E:Int}(h:Below w.heap.size w w'):LnQ w zL [] E (.returned (.tuple #[.agg zLnC,.slice none 0 0,.int .i64 E])) w':=
 ⟨none,0,none,0,rfl,OwnR.nil _ _,OwnR.nil _ _,h⟩
theorem Yp4{l:Ln}{x:Tx}{E:Int}(h:pqE l x=E)(h0:E≠0):pqE l x=E∧pqL l x=zL∧pqO l x=[]:=⟨h,(YoI (by rw[h];exact h0)).1,(YoI (by rw[h];exact h0)).2⟩
theorem Yqf{xs:List Tx}(hs:soB xs=true)(n:Nat):(hitX xs n).toList=(xs.drop (cntN xs n)).take (if hasN xs n=true then 1 else 0):=by
 unfold hasN
 rw[Yol hs]
 by_cases h:cntN xs n<xs.length
 ·rw[dif_pos h]
  by_cases h2:xs[cntN xs n].n=n
  ·rw[if_pos h2,List.drop_eq_getElem_cons h];rfl
  ·rw[if_neg h2];rfl
 ·rw[dif_neg h];rfl
theorem Yqz{d:Dg}{xs:List Tx}{x:Tx}(h:mayL ⟨d,xs⟩=false):pqE ⟨d,xs⟩ x=8:=by unfold pqE;rw[if_pos h]
theorem Yqy{d:Dg}{xs:List Tx}{x:Tx}(h:mayL ⟨d,xs⟩=true)(h2:ownX x d=false):pqE ⟨d,xs⟩ x=2:=by unfold pqE;rw[if_neg (by rw[h];simp),if_pos h2]
theorem YqA{d:Dg}{xs:List Tx}{x:Tx}(h:mayL ⟨d,xs⟩=true)(h2:ownX x d=true)(h3:hasN xs x.n=true):∃hk:cntN xs x.n<xs.length,pqE ⟨d,xs⟩ x=if x.f≤xs[cntN xs x.n].f then 190 else 0:=by
 have hs:=(Yn2 h).2.1
 have hk:=Yoy hs h3
 refine⟨hk,?_⟩
 unfold pqE
 rw[if_neg (by rw[h];simp),if_neg (by rw[h2];simp)]
 have hh:hitX xs x.n=some xs[cntN xs x.n]:=by
  have h4:=h3
  unfold hasN at h4
  rw[Yol hs,dif_pos hk]at h4 ⊢
  by_cases h5:xs[cntN xs x.n].n=x.n
  ·rw[if_pos h5]
  ·rw[if_neg h5]at h4;cases h4
 show (match hitX xs x.n with
  |some y=>if x.f≤y.f then (190:Int) else 0
  |none=>if xs.length=256 then 9 else 0)=_
 rw[hh]
theorem YqB{d:Dg}{xs:List Tx}{x:Tx}(h:mayL ⟨d,xs⟩=true)(h2:ownX x d=true)(h3:hasN xs x.n=false):pqE ⟨d,xs⟩ x=if xs.length=256 then 9 else 0:=by
 unfold pqE
 rw[if_neg (by rw[h];simp),if_neg (by rw[h2];simp)]
 have hh:hitX xs x.n=none:=by
  unfold hasN at h3
  cases h4:hitX xs x.n
  ·rfl
  ·rw[h4]at h3;cases h3
 show (match hitX xs x.n with
  |some y=>if x.f≤y.f then (190:Int) else 0
  |none=>if xs.length=256 then 9 else 0)=_
 rw[hh]
theorem Yqk{d:Dg}{xs:List Tx}{x:Tx}(h:pqE ⟨d,xs⟩ x=0){nx:Nat}(hn:nx=cntN xs x.n+(if hasN xs x.n=true then 1 else 0)):
  pqE ⟨d,xs⟩ x=0∧pqL ⟨d,xs⟩ x=⟨d,([xs.take (cntN xs x.n),[x],xs.drop nx]:List (List Tx)).flatten⟩∧pqO ⟨d,xs⟩ x=(xs.drop (cntN xs x.n)).take (nx-cntN xs x.n):=by
 have hs:=(Yn2 (Yn6 h).1).2.1
 refine⟨h,?_,?_⟩
 ·rw[(Yn0 h).1,hn]
  show Ln.mk d (withL xs x)=_
  rw[Yoc hs]
  congr 1
  simp
 ·rw[(Yn0 h).2,hn,Nat.add_sub_cancel_left]
  exact Yqf hs x.n
theorem Yql{F:Nat→Prop}{w:World}{D:Option Addr}{xs:List Tx}(h:Row F w D xs){j:Nat}(hj:j<xs.length):∃b o,D=some ⟨b,o,none⟩∧w.cell? ⟨b,o+j * 99+66,none⟩=some (.int .u64 (xs[j].f:Int))∧xs[j].ok:=by
 obtain⟨b,o,h1,h2,h3⟩:=Yoa h hj
 refine⟨b,o,h1,h2 66 _ ?_,h3⟩
 have e:txC xs[j]=(xs[j].p.1.map bv++(xs[j].t.1.map bv++[.int .u64 (xs[j].n:Int),.int .u64 (xs[j].a:Int)]))++(.int .u64 (xs[j].f:Int)::xs[j].s.1.map bv):=by simp[txC,txS]
 rw[e,List.getElem?_append_right (by simp[xs[j].p.2,xs[j].t.2])]
 simp[xs[j].p.2,xs[j].t.2]
set_option maxHeartbeats 8000000 in
theorem Ype(F:Nat→Prop)(d:Dg)(A:Option Addr)(c:Nat)(xs:List Tx)(x:Tx)(w:World)(hr:Row F w A xs)(hx:x.ok)(hc:xs.length≤1000000)(hcc:xs.length≤c)(hcm:c≤maxLen)(hT:Tab w):
  Calls Tryd.prog 7 #[.agg (lnC d A xs.length c).toArray,.agg (txC x).toArray] w (LnQ w (pqL ⟨d,xs⟩ x) (pqO ⟨d,xs⟩ x) (pqE ⟨d,xs⟩ x)):=by
 have hul:=Tryd.underlying26
 have hux:=Tryd.underlying33
 have hu:=Tryd.underlying23
 have e1:=Zad w (.cells (lnC d A xs.length c).toArray 26)
 have e2:=Zad (w.alloc (.cells (lnC d A xs.length c).toArray 26)) (.cells (txC x).toArray 33)
 have e3:=Zad ((w.alloc (.cells (lnC d A xs.length c).toArray 26)).alloc (.cells (txC x).toArray 33)) (.cells zLnC 26)
 have z0:=Vx0 w (.cells (lnC d A xs.length c).toArray 26)
 replace z0:=(e2.block _ (block_lt z0)).trans z0
 replace z0:=(e3.block _ (block_lt z0)).trans z0
 have z1:=Vx0 (w.alloc (.cells (lnC d A xs.length c).toArray 26)) (.cells (txC x).toArray 33)
 replace z1:=(e3.block _ (block_lt z1)).trans z1
 have z2:=Vx0 ((w.alloc (.cells (lnC d A xs.length c).toArray 26)).alloc (.cells (txC x).toArray 33)) (.cells zLnC 26)
 simp only[Vx2]at z1 z2
 have W0:=hid (Zag (Zag e1 e2) e3)
 have X0:=hid (Zae z0)
 have Y0:=hid (Zae z1)
 have R:=hid hr
 have R0:=hid (hr.bel W0.out)
 have RT:=hid ((hr.mono (G:=fun _=>True) fun _ _ _=>trivial))
 have T0:=hid (hT.bel W0.out hT.low)
 have hT0:=hid hT
 have hlow:=hid hT.low
 have hC:=hid (fun W (h:Row F W A xs) hW=>Ypb F d A c xs W h hc hW)
 have hOf:=hid (fun W hW=>YpG d x hx W hW)
 have hBy:=hid (fun W=>Ypm d A xs.length c W)
 have jl:=hid (fun A n c=>YoL d A n c)
 have jl0:=hid (YoL d A xs.length c)
 have jz:=hid (fun A n c=>YoL zL.d A n c)
 have zl:=hid (fun A n c=>YoY d A n c)
 have ol:=hid (fun A n c=>YoZ d A n c)
 have oz:=hid (YoZ zL.d none 0 0)
 have jx:=hid (Zby x)
 have jd:=hid (ZaF d)
 have bl:=hid (fun A n c=>YoN d A n c)
 have hbx:=hid (fun (W:World) (h:W.rangeAt w.heap.size 0 (lnC d A xs.length c))=>(⟨(BoxL.of h).d,(BoxL.of h).x⟩:W.rangeAt w.heap.size 0 (d.1.map bv)∧W.cell? ⟨w.heap.size,32,none⟩=some (.slice A xs.length c)))
 have hby:=hid (fun (W:World) (h:W.rangeAt (w.heap.size+1) 0 (txC x))=>(⟨(BoxX.of h).n,(BoxX.of h).f⟩:W.cell? ⟨w.heap.size+1,64,none⟩=some (.int .u64 (x.n:Int))∧W.cell? ⟨w.heap.size+1,66,none⟩=some (.int .u64 (x.f:Int))))
 replace z0:=hid z0
 replace z1:=hid z1
 replace z2:=hid z2
 clear e1 e2 e3 hr hT
 obtain⟨em,hem⟩:∃m,mayL ⟨d,xs⟩=m:=⟨_,rfl⟩
 obtain⟨ow,how⟩:∃o,ownX x d=o:=⟨_,rfl⟩
 obtain⟨hv,hhv⟩:∃v,hasN xs x.n=v:=⟨_,rfl⟩
 have hck:checkL ⟨d,xs⟩=if em=true then 0 else 8:=by unfold checkL;rw[hem]
 rw[hck]at hC
 rw[how]at hOf
 have K1:=hid (fun h:em=false=>Yp4 (Yqz (x:=x) (hem.trans h)) (by decide))
 have K2:=hid (fun (h:em=true) (h2:ow=false)=>Yp4 (Yqy (hem.trans h) (how.trans h2)) (by decide))
 have K3:=hid (fun (h:em=true) (h2:ow=true) (h3:hv=true)=>YqA (hem.trans h) (how.trans h2) (hhv.trans h3))
 have K4:=hid (fun (h:em=true) (h2:ow=true) (h3:hv=false)=>YqB (hem.trans h) (how.trans h2) (hhv.trans h3))
 have K5:=hid (fun (h:pqE ⟨d,xs⟩ x=0) nx (hn:nx=cntN xs x.n+(if hasN xs x.n=true then 1 else 0))=>Yqk h hn)
 have hkl:=hid (Ypi xs x.n)
 have K6:=hid (fun h:em=true=>show xs.length≤256 from (Yn2 (hem.trans h)).1)
 have K7:=hid (fun (e:Int) (h:pqE ⟨d,xs⟩ x=e) (h0:e≠0)=>(⟨h,(YoI (by rw[h];exact h0)).1,(YoI (by rw[h];exact h0)).2⟩:pqE ⟨d,xs⟩ x=e∧pqL ⟨d,xs⟩ x=zL∧pqO ⟨d,xs⟩ x=[]))
 have hfd:=hid (fun (h:em=true) W (h2:Row F W A xs)=>Ypl F A c x.n xs W h2 (Yn2 (hem.trans h)).2.1 hc)
 rw[hhv]at K5 hfd
 generalize cntN xs x.n=k at *
 obtain⟨E,hE⟩:∃E,pqE ⟨d,xs⟩ x=E:=⟨_,rfl⟩
 obtain⟨L,hL⟩:∃L,pqL ⟨d,xs⟩ x=L:=⟨_,rfl⟩
 obtain⟨O,hO⟩:∃O,pqO ⟨d,xs⟩ x=O:=⟨_,rfl⟩
 simp only[hE,hL,hO]at K1 K2 K3 K4 K5 K7 ⊢
 have hfee:=hid (fun (W:World) (h:Below w.heap.size w W) (hk:k<xs.length)=>Yql (R.out.bel h) hk)
 clear hem how hhv hck hE hL hO
 have hone:=hid (fun (W:World) (T:TypeId)=>YpN (w:=W) (E:=T) x hx)
 have hdr:∀n:Nat,(xs.drop n).length=xs.length-n:=fun n=>List.length_drop ..
 have htk:(xs.take k).length=k:=by rw[List.length_take];have:=hkl.out;omega
 have hlenx:(txC x).length=Enc.size Tx:=ZgR x
 generalize hcx:txC x=cx at *
 replace hcx:=hid hcx
 generalize lnC d A xs.length c=cl at *
 generalize hcd:d.1.map bv=cd at *
 replace hcd:=hid hcd
 replace hlenx:=hid hlenx
 replace hdr:=hid hdr
 replace htk:=hid htk
 go_enter Tryd.func7,Tryd.ntmps7
 go_wp2_with (first
  |(with_reducible refine Zac rfl 26 rfl zLnC YoX ?_)
  |(with_reducible refine lDr X0.out jl0.out hul ?_))
 refine(hC.out _ R0.out T0.out).mono ?_
 rintro e w3 ⟨rfl,hb3⟩
 have W3:=hid (W0.out.trans (hb3.mono W0.out.size))
 have z3:=hid ((hb3.block _ (block_lt z2.out)).trans z2.out)
 have X3:=hid (Zab hb3 X0.out)
 have Y3:=hid (Zab hb3 Y0.out)
 clear hb3 z0 z1 z2 X0 Y0 R0 T0 W0 hC
 cases em
 ·obtain⟨rfl,rfl,rfl⟩:=K1.out (by first|rfl|trivial)
  clear K1 K2 K3 K4 K5 hfd
  go_wp2_with (first
   |((with_reducible refine Zaf rfl 26 _ rfl zLnC [] ?_ ?_ ?_);exact YoF;rfl)
   |((with_reducible refine stW 4 15 (w.heap.size+1+1) 26 zLnC ?_ ?_ ?_ ?_ ?_);exact z3.out;exact jz.out none 0 0;rfl;exact oz.out;intro we hge hbe hse))
  refine Vy0 (v:=.tuple #[.agg zLnC,.slice none 0 0,.int .i64 8]) ?_ rfl (Ypr (W3.out.grown hbe W3.out.size (fun g e=>by injection e with e;omega)))
  exact Ypa Tryd.results7 _ _ (w.heap.size+1+1) 26 _ (0,0) _ _ _ rfl rfl rfl hge rfl hul (jz.out none 0 0)
 ·clear K1
  go_wp2_with (first
   |(with_reducible refine lDr ((hbx.out _ X3.out).1) jd.out hu ?_)
   |(with_reducible refine lDr Y3.out jx.out hux ?_))
  refine(hOf.out _ (hT0.out.bel W3.out hlow.out)).mono ?_
  rintro e w4 ⟨rfl,hb4⟩
  have W4:=hid (W3.out.trans (hb4.mono W3.out.size))
  have z4:=hid ((hb4.block _ (block_lt z3.out)).trans z3.out)
  have X4:=hid (Zab hb4 X3.out)
  have Y4:=hid (Zab hb4 Y3.out)
  clear hb4 z3 X3 Y3 W3 hOf
  cases ow
  ·obtain⟨rfl,rfl,rfl⟩:=K2.out (by first|rfl|trivial) (by first|rfl|trivial)
   clear K2 K3 K4 K5 hfd
   go_wp2_with (first
    |((with_reducible refine Zaf rfl 26 _ rfl zLnC [] ?_ ?_ ?_);exact YoF;rfl)
    |((with_reducible refine stW 4 22 (w.heap.size+1+1) 26 zLnC ?_ ?_ ?_ ?_ ?_);exact z4.out;exact jz.out none 0 0;rfl;exact oz.out;intro we hge hbe hse))
   refine Vy0 (v:=.tuple #[.agg zLnC,.slice none 0 0,.int .i64 2]) ?_ rfl (Ypr (W4.out.grown hbe W4.out.size (fun g e=>by injection e with e;omega)))
   exact Ypa Tryd.results7 _ _ (w.heap.size+1+1) 26 _ (0,0) _ _ _ rfl rfl rfl hge rfl hul (jz.out none 0 0)
  ·clear K2
   replace hfd:=hid (hfd.out (by first|rfl|trivial))
   have cn4:=hid (hby.out _ Y4.out).1
   go_wp2
   refine rgB fun hHeld=>?_
   refine' tkM 0 rfl (fun _ h=>Zab h X4.out) hul jl0.out ?_
   refine' tkP 2 rfl ?_
   refine' tkC 3 rfl cn4.out ?_
   simp only[sQ]
   refine rdC 1 rfl (hBy.out _) fun v1 hB hHeld=>?_
   try simp only[sQ]
   refine rdC 4 rfl (hfd.out _ (R.out.bel (W4.out.trans (hHeld.mono W4.out.size)))) fun v2 hB hHeld=>?_
   try simp only[sQ]
   refine' tkW 5 6 ?_
   refine' tkW 7 8 ?_
   simp only[sQ]
   refine' tkP 9 rfl ?_
   simp only[sQ]
   refine dnN ?_
   have W5:=hid (W4.out.trans (hHeld.mono W4.out.size))
   have z5:=hid ((hHeld.block _ (block_lt z4.out)).trans z4.out)
   have X5:=hid (Zab hHeld X4.out)
   have Y5:=hid (Zab hHeld Y4.out)
   clear hHeld z4 X4 Y4 W4 hfd hBy cn4
   have c5:=(hbx.out _ X5.out).2
   have f5:=(hby.out _ Y5.out).2
   cases hv
   ·replace K4:=hid (K4.out (by first|rfl|trivial) (by first|rfl|trivial) (by first|rfl|trivial))
    clear K3
    by_cases h256:xs.length=256
    ·have hE:=K4.out
     rw[if_pos h256]at hE
     obtain⟨rfl,rfl,rfl⟩:=K7.out _ hE (by decide)
     have hq:((xs.length:Int)==256)=true:=by simp[h256]
     clear K4 K5 K7
     go_wp2_with (first
      |((with_reducible refine Zaf rfl 26 _ rfl zLnC [] ?_ ?_ ?_);exact YoF;rfl)
      |((with_reducible refine stW 4 49 (w.heap.size+1+1) 26 zLnC ?_ ?_ ?_ ?_ ?_);exact z5.out;exact jz.out none 0 0;rfl;exact oz.out;intro we hge hbe hse))
     refine Vy0 (v:=.tuple #[.agg zLnC,.slice none 0 0,.int .i64 9]) ?_ rfl (Ypr (W5.out.grown hbe W5.out.size (fun g e=>by injection e with e;omega)))
     exact Ypa Tryd.results7 _ _ (w.heap.size+1+1) 26 _ (0,0) _ _ _ rfl rfl rfl hge rfl hul (jz.out none 0 0)
    ·have hE0:=K4.out
     rw[if_neg h256]at hE0
     have hq:((xs.length:Int)==256)=false:=by rw[beq_eq_false_iff_ne];omega
     clear K4 K7
     replace K5:=K5.out hE0 k (by simp)
     obtain⟨-,hL,hO⟩:=K5
     have l256:=K6.out (by first|rfl|trivial)
     have hkn:k≤k∧k≤xs.length:=⟨by have:=hkl.out;omega,by have:=hkl.out;omega⟩
     obtain⟨fl,hfl⟩:∃fl,([xs.take k,[x],xs.drop k]:List (List Tx)).flatten=fl:=⟨_,rfl⟩
     obtain⟨og,hog⟩:∃og,(xs.drop k).take (k-k)=og:=⟨_,rfl⟩
     have hfn:fl.length≤1000:=by rw[← hfl];simp;omega
     have hol:og.length=0:=by rw[← hog,List.length_take,List.length_drop];omega
     rw[hfl]at hL
     rw[hog]at hO
     subst hE0 hL hO
     have hcat:=hid (fun A0 W (h:Row (fun _=>True) W A0 ([xs.take k,[x],xs.drop k]:List (List Tx)))=>by
      have:=Ypu (fun _=>True) A0 3 [xs.take k,[x],xs.drop k] W h (show 3≤1000 by decide) (by rw[hfl];omega)
      rw[hfl]at this
      exact(show Calls Tryd.prog 30 #[.slice A0 3 3] W fun e w'=>∃A' c',e=.returned (.slice A' fl.length c')∧OwnR 33 w' W.heap.size A' c' fl∧Below W.heap.size W w' from this))
     have hCl:=hid (fun W (h:Row (fun _=>True) W A xs)=>by
      have:=Yow (fun _=>True) (cutA A c k (Enc.size Tx)) (c-k) ((xs.drop k).take (k-k)) W ((h.cut k c hkl.out hcc).take (k-k)) (by rw[hog,hol];omega)
      rw[hog,hol]at this
      exact this)
     have sl1:=hid (fun W=>Zcl slotTxQ A xs.length c k (Vx1 hkl.out hcc) W)
     have sl2:=hid (fun W=>Zc7 slotTxQ A xs.length c k hkn.2 W)
     have sl3:=hid (fun W=>ZfL slotTxQ A xs.length c k k hkn.1 (Vx1 hkn.2 hcc) W)
     have k1:=hid (show k≤c∧c≤maxLen from ⟨Vx1 hkl.out hcc,hcm⟩)
     have k3:=hid (show xs.length-k≤c-k∧c-k≤maxLen from ⟨Nat.sub_le_sub_right hcc k,Vx1 (Nat.sub_le _ _) hcm⟩)
     have hRW:=hid (fun W (h:Below w.heap.size w W)=>RT.out.bel h)
     have hcut:=hid (fun W (h:Row (fun _=>True) W A xs)=>h.cut k c hkn.2 hcc)
     have s5:=hid (show w.heap.size+1+1<v2.heap.size from block_lt z5.out)
     have hd3:=hid (hdr.out k)
     clear hfl hog hfn hkn RT K6
     go_wp2
     refine wp_region_noPanic ?_
     refine wp_region_held_drew (S:=fun W=>Below w.heap.size w W∧W.rangeAt w.heap.size 0 cl∧W.rangeAt (w.heap.size+1) 0 cx) (by kernel_rfl) ?_ (fun hHeld=>?_)
     ·exact⟨W5.out.trans ((Zao v2).mono W5.out.size),Zab (Zao v2) X5.out,Zab (Zao v2) Y5.out⟩
     refine' tkP 0 rfl ?_
     refine' tkM 1 rfl (fun _ h=>(hbx.out _ h.2.1).1) hu jd.out ?_
     refine' tkP 2 rfl ?_
     refine' tkF 3 (fun W hSw=>(hbx.out _ hSw.2.1).2) rfl ?_
     simp only[sQ]
     refine' tkP 4 rfl ?_
     simp only[sQ]
     refine' tkH 5 rfl (Yb2 (by rfl) _ _ _ _ _ rfl _ _ _ _ _ (sl1.out) rfl rfl rfl rfl) ?_
     simp only[sQ]
     refine' tkM 6 rfl (fun _ h=>h.2.2) hux jx.out ?_
     refine' tkP 8 rfl ?_
     refine' tkF 9 (fun W hSw=>(hbx.out _ hSw.2.1).2) rfl ?_
     refine' tkP 10 rfl ?_
     simp only[sQ]
     refine' tkH 11 rfl (Yb2 (by rfl) _ _ _ _ _ rfl _ _ _ _ _ (sl2.out) rfl rfl rfl rfl) ?_
     simp only[sQ]
     refine rdH 7 rfl fun K hK=>?_
     refine Ypw rfl (.tmp 56) rfl x hx _ hcx.out.symm rfl ?_
     intro g7 v7 q7 hB
     have z7:=hid ((hB.block _ (block_lt (show v2.drew.heap[w.heap.size+1+1]? =_ from z5.out))).trans z5.out)
     refine hK.out _ _ (⟨hHeld.1.trans (hB.mono hHeld.1.size),Zab hB hHeld.2.1,Zab hB hHeld.2.2⟩) fun hHeld=>?_
     clear hK K
     try simp only[sQ]
     refine rdH 12 rfl fun K hK=>?_
     refine Ypn rfl (.tmp 55) (.tmp 57) (.tmp 61) rfl (xs.take k) [x] (xs.drop k) htk.out rfl hd3.out rfl rfl rfl ((hRW.out _ hHeld.1).take k) q7 (hcut.out _ (hRW.out _ hHeld.1)) k1.out ⟨Vx8 _,Yp3⟩ k3.out ?_
     intro g12 v12 q12 hB
     have z12:=hid ((hB.block _ (block_lt z7.out)).trans z7.out)
     refine hK.out _ _ (⟨hHeld.1.trans (hB.mono hHeld.1.size),Zab hB hHeld.2.1,Zab hB hHeld.2.2⟩) fun hHeld=>?_
     clear hK K
     try simp only[sQ]
     refine rdH 13 rfl fun K hK=>?_
     go_simp
     refine(hcat.out _ _ q12).mono ?_
     rintro e v13 ⟨A13,c13,rfl,o13,hB⟩
     have z13:=hid ((hB.block _ (block_lt z12.out)).trans z12.out)
     have s13:=hid (show w.heap.size+1+1<v12.heap.size from block_lt z12.out)
     go_wp2_with fail
     refine hK.out _ _ (⟨hHeld.1.trans (hB.mono hHeld.1.size),Zab hB hHeld.2.1,Zab hB hHeld.2.2⟩) fun hHeld=>?_
     clear hK K
     try simp only[sQ]
     refine' tkH 14 rfl (Yb1 (by rfl) _ _ rfl _ _ ((bl.out _ _ _)) rfl) ?_
     simp only[sQ]
     refine rdH 15 rfl fun K hK=>?_
     refine Zaj rfl 26 (.tmp 4) (.tmp 64) rfl (w.heap.size+1+1) _ rfl rfl 26 zLnC z13.out (jl.out _ _ _) (zl.out _ _ _) (ol.out _ _ _) ?_
     intro w15 d15 hG15
     have O15:=hid (OwnQ.keptAtQ o13 hG15 s13.out s13.out)
     refine hK.out _ _ (⟨hHeld.1.grown hG15 hHeld.1.size (fun g e=>by injection e with e;omega),Zak hHeld.2.1 (fun hb=>hG15.block _ hb (by first|(simp;done)|(simp;omega))),Zak hHeld.2.2 (fun hb=>hG15.block _ hb (by first|(simp;done)|(simp;omega)))⟩) fun hHeld=>?_
     clear hK K
     try simp only[sQ]
     refine dnN ?_
     have W15:=hid hHeld.1
     have X15:=hid hHeld.2.1
     have z15:=hid d15
     have Z15:=hid (Zae d15)
     clear hHeld d15 hG15 o13 z7 z12 z13 q7 q12 hcat
     go_wp2
     refine wp_region_noPanic ?_
     refine wp_region_held_drew (S:=fun W=>Below w.heap.size w W∧W.rangeAt w.heap.size 0 cl∧W.rangeAt (w.heap.size+1+1) 0 (lnC d A13 fl.length c13)) (by kernel_rfl) ?_ (fun hHeld=>?_)
     ·exact⟨W15.out.trans ((Zao w15).mono W15.out.size),Zab (Zao w15) X15.out,Zab (Zao w15) Z15.out⟩
     refine' tkM 0 rfl (fun _ h=>h.2.2) hul (jl.out _ _ _) ?_
     refine' tkP 1 rfl ?_
     refine' tkF 2 (fun W hSw=>(hbx.out _ hSw.2.1).2) rfl ?_
     refine' tkP 3 rfl ?_
     simp only[sQ]
     refine' tkP 4 rfl ?_
     simp only[sQ]
     refine' tkH 5 rfl (Yb2 (by rfl) _ _ _ _ _ rfl _ _ _ _ _ (sl3.out) rfl rfl rfl rfl) ?_
     simp only[sQ]
     refine rdH 6 rfl fun K hK=>?_
     go_simp
     refine(hCl.out _ (hRW.out _ hHeld.1)).mono ?_
     rintro e v16 ⟨A9,c9,rfl,o9,hB⟩
     have z9:=hid ((hB.block _ (block_lt (show w15.drew.heap[w.heap.size+1+1]? =_ from z15.out))).trans z15.out)
     have O9:=hid ((O15.out.bel (Zao w15)).bel hB)
     have s9:=hid (show w.heap.size+1+1<w15.drew.heap.size from block_lt (show w15.drew.heap[w.heap.size+1+1]? =_ from z15.out))
     go_wp2_with fail
     refine hK.out _ _ (⟨hHeld.1.trans (hB.mono hHeld.1.size),Zab hB hHeld.2.1,Zab hB hHeld.2.2⟩) fun hHeld=>?_
     clear hK K
     try simp only[sQ]
     refine rdH 7 rfl fun K hK=>?_
     refine Zaj rfl 26 (.tmp 4) (.tmp 65) rfl (w.heap.size+1+1) _ rfl rfl 26 _ z9.out (jl.out _ _ _) rfl (ol.out _ _ _) ?_
     intro wA dA hGA
     have OA:=hid (OwnQ.keptAtQ O9.out hGA s13.out s13.out)
     have PA:=hid (OwnQ.keptAtQ o9 hGA s9.out s9.out)
     refine hK.out _ _ (⟨hHeld.1.grown hGA hHeld.1.size (fun g e=>by injection e with e;omega),Zak hHeld.2.1 (fun hb=>hGA.block _ hb (by first|(simp;done)|(simp;omega))),Zae dA⟩) fun hHeld=>?_
     clear hK K
     try simp only[sQ]
     refine' tkW 8 9 ?_
     simp only[sQ]
     refine dnN ?_
     go_wp2
     refine Vy0 (v:=.tuple #[.agg (lnC d A13 fl.length c13).toArray,.slice A9 0 c9,.int .i64 0]) ?_ rfl ⟨A13,c13,A9,c9,by rw[hol],OwnR.base OA.out ?_,OwnR.base PA.out ?_,hHeld.1⟩
     ·exact Ypa Tryd.results7 _ _ (w.heap.size+1+1) 26 _ (0,0) _ _ _ rfl rfl rfl dA rfl hul (jl.out _ _ _)
     ·have:=s13.out;omega
     ·have:=s9.out;omega
   ·obtain⟨hkx,hE⟩:=K3.out (by first|rfl|trivial) (by first|rfl|trivial) (by first|rfl|trivial)
    clear K3 K4
    obtain⟨bb,o,hA,cf,-⟩:=hfee.out _ W5.out hkx
    subst hA
    have hkx2:(k:Int)<(xs.length:Int):=by omega
    by_cases hle:x.f≤xs[k].f
    ·rw[if_pos hle]at hE
     obtain⟨rfl,rfl,rfl⟩:=K7.out _ hE (by decide)
     have hle2:(x.f:Int)≤(xs[k].f:Int):=by omega
     clear K5 K7
     go_wp2
     refine rgB fun hHeld=>?_
     refine' tkP 0 rfl ?_
     refine' tkC 1 rfl f5 ?_
     refine' tkP 2 rfl ?_
     refine' tkC 3 rfl c5 ?_
     simp only[sQ]
     refine' tkW 4 5 ?_
     refine' tkP 6 rfl ?_
     refine' tkC 7 rfl cf ?_
     simp only[sQ]
     refine' tkP 8 rfl ?_
     simp only[sQ]
     refine dnN ?_
     have W6:=hid (W5.out.trans (hHeld.mono W5.out.size))
     have z6:=hid ((hHeld.block _ (block_lt z5.out)).trans z5.out)
     go_wp2_with (first
      |((with_reducible refine Zaf rfl 26 _ rfl zLnC [] ?_ ?_ ?_);exact YoF;rfl)
      |((with_reducible refine stW 4 42 (w.heap.size+1+1) 26 zLnC ?_ ?_ ?_ ?_ ?_);exact z6.out;exact jz.out none 0 0;rfl;exact oz.out;intro we hge hbe hse))
     refine Vy0 (v:=.tuple #[.agg zLnC,.slice none 0 0,.int .i64 190]) ?_ rfl (Ypr (W6.out.grown hbe W6.out.size (fun g e=>by injection e with e;omega)))
     exact Ypa Tryd.results7 _ _ (w.heap.size+1+1) 26 _ (0,0) _ _ _ rfl rfl rfl hge rfl hul (jz.out none 0 0)
    ·rw[if_neg hle]at hE
     have hE0:=hE
     have hle2:¬(x.f:Int)≤(xs[k].f:Int):=by omega
     obtain⟨nx,hnx⟩:∃nx:Nat,nx=k+1:=⟨_,rfl⟩
     have hwn:IntKind.i64.wrap ((k:Int)+1)=(nx:Int):=by rw[IntKind.wrap_i64];omega
     replace hnx:=hid hnx
     clear K7
     go_wp2
     refine rgB fun hHeld=>?_
     refine' tkP 0 rfl ?_
     refine' tkC 1 rfl f5 ?_
     refine' tkP 2 rfl ?_
     refine' tkC 3 rfl c5 ?_
     simp only[sQ]
     refine' tkW 4 5 ?_
     refine' tkP 6 rfl ?_
     refine' tkC 7 rfl cf ?_
     simp only[sQ]
     refine' tkP 8 rfl ?_
     simp only[sQ]
     refine dnN ?_
     have W6:=hid (W5.out.trans (hHeld.mono W5.out.size))
     have z6:=hid ((hHeld.block _ (block_lt z5.out)).trans z5.out)
     have X6:=hid (Zab hHeld X5.out)
     have Y6:=hid (Zab hHeld Y5.out)
     clear hHeld f5 c5 cf hle hle2 W5 z5 X5 Y5
     generalize v2.drew=w6 at *
     replace K5:=K5.out hE0 nx (by simp[hnx.out])
     obtain⟨-,hL,hO⟩:=K5
     have l256:=K6.out (by first|rfl|trivial)
     have hkn:k≤nx∧nx≤xs.length:=⟨by have:=hnx.out;omega,by have:=hnx.out;omega⟩
     obtain⟨fl,hfl⟩:∃fl,([xs.take k,[x],xs.drop nx]:List (List Tx)).flatten=fl:=⟨_,rfl⟩
     obtain⟨og,hog⟩:∃og,(xs.drop k).take (nx-k)=og:=⟨_,rfl⟩
     have hfn:fl.length≤1000:=by rw[← hfl];simp;omega
     have hol:og.length=(nx-k):=by rw[← hog,List.length_take,List.length_drop];omega
     rw[hfl]at hL
     rw[hog]at hO
     subst hE0 hL hO
     have hcat:=hid (fun A0 W (h:Row (fun _=>True) W A0 ([xs.take k,[x],xs.drop nx]:List (List Tx)))=>by
      have:=Ypu (fun _=>True) A0 3 [xs.take k,[x],xs.drop nx] W h (show 3≤1000 by decide) (by rw[hfl];omega)
      rw[hfl]at this
      exact(show Calls Tryd.prog 30 #[.slice A0 3 3] W fun e w'=>∃A' c',e=.returned (.slice A' fl.length c')∧OwnR 33 w' W.heap.size A' c' fl∧Below W.heap.size W w' from this))
     have hCl:=hid (fun W (h:Row (fun _=>True) W (some ⟨bb,o,none⟩) xs)=>by
      have:=Yow (fun _=>True) (cutA (some ⟨bb,o,none⟩) c k (Enc.size Tx)) (c-k) ((xs.drop k).take (nx-k)) W ((h.cut k c hkl.out hcc).take (nx-k)) (by rw[hog,hol];omega)
      rw[hog,hol]at this
      exact this)
     have sl1:=hid (fun W=>Zcl slotTxQ (some ⟨bb,o,none⟩) xs.length c k (Vx1 hkl.out hcc) W)
     have sl2:=hid (fun W=>Zc7 slotTxQ (some ⟨bb,o,none⟩) xs.length c nx hkn.2 W)
     have sl3:=hid (fun W=>ZfL slotTxQ (some ⟨bb,o,none⟩) xs.length c k nx hkn.1 (Vx1 hkn.2 hcc) W)
     have k1:=hid (show k≤c∧c≤maxLen from ⟨Vx1 hkl.out hcc,hcm⟩)
     have k3:=hid (show xs.length-nx≤c-nx∧c-nx≤maxLen from ⟨Nat.sub_le_sub_right hcc nx,Vx1 (Nat.sub_le _ _) hcm⟩)
     have hRW:=hid (fun W (h:Below w.heap.size w W)=>RT.out.bel h)
     have hcut:=hid (fun W (h:Row (fun _=>True) W (some ⟨bb,o,none⟩) xs)=>h.cut nx c hkn.2 hcc)
     have s5:=hid (show w.heap.size+1+1<w6.heap.size from block_lt z6.out)
     have hd3:=hid (hdr.out nx)
     clear hfl hog hfn hkn RT K6
     go_wp2
     refine wp_region_noPanic ?_
     refine wp_region_held_drew (S:=fun W=>Below w.heap.size w W∧W.rangeAt w.heap.size 0 cl∧W.rangeAt (w.heap.size+1) 0 cx) (by kernel_rfl) ?_ (fun hHeld=>?_)
     ·exact⟨W6.out.trans ((Zao w6).mono W6.out.size),Zab (Zao w6) X6.out,Zab (Zao w6) Y6.out⟩
     refine' tkP 0 rfl ?_
     refine' tkM 1 rfl (fun _ h=>(hbx.out _ h.2.1).1) hu jd.out ?_
     refine' tkP 2 rfl ?_
     refine' tkF 3 (fun W hSw=>(hbx.out _ hSw.2.1).2) rfl ?_
     simp only[sQ]
     refine' tkP 4 rfl ?_
     simp only[sQ]
     refine' tkH 5 rfl (Yb2 (by rfl) _ _ _ _ _ rfl _ _ _ _ _ (sl1.out) rfl rfl rfl rfl) ?_
     simp only[sQ]
     refine' tkM 6 rfl (fun _ h=>h.2.2) hux jx.out ?_
     refine' tkP 8 rfl ?_
     refine' tkF 9 (fun W hSw=>(hbx.out _ hSw.2.1).2) rfl ?_
     refine' tkP 10 rfl ?_
     simp only[sQ]
     refine' tkH 11 rfl (Yb2 (by rfl) _ _ _ _ _ rfl _ _ _ _ _ (sl2.out) rfl rfl rfl rfl) ?_
     simp only[sQ]
     refine rdH 7 rfl fun K hK=>?_
     refine Ypw rfl (.tmp 56) rfl x hx _ hcx.out.symm rfl ?_
     intro g7 v7 q7 hB
     have z7:=hid ((hB.block _ (block_lt (show w6.drew.heap[w.heap.size+1+1]? =_ from z6.out))).trans z6.out)
     refine hK.out _ _ (⟨hHeld.1.trans (hB.mono hHeld.1.size),Zab hB hHeld.2.1,Zab hB hHeld.2.2⟩) fun hHeld=>?_
     clear hK K
     try simp only[sQ]
     refine rdH 12 rfl fun K hK=>?_
     refine Ypn rfl (.tmp 55) (.tmp 57) (.tmp 61) rfl (xs.take k) [x] (xs.drop nx) htk.out rfl hd3.out rfl rfl rfl ((hRW.out _ hHeld.1).take k) q7 (hcut.out _ (hRW.out _ hHeld.1)) k1.out ⟨Vx8 _,Yp3⟩ k3.out ?_
     intro g12 v12 q12 hB
     have z12:=hid ((hB.block _ (block_lt z7.out)).trans z7.out)
     refine hK.out _ _ (⟨hHeld.1.trans (hB.mono hHeld.1.size),Zab hB hHeld.2.1,Zab hB hHeld.2.2⟩) fun hHeld=>?_
     clear hK K
     try simp only[sQ]
     refine rdH 13 rfl fun K hK=>?_
     go_simp
     refine(hcat.out _ _ q12).mono ?_
     rintro e v13 ⟨A13,c13,rfl,o13,hB⟩
     have z13:=hid ((hB.block _ (block_lt z12.out)).trans z12.out)
     have s13:=hid (show w.heap.size+1+1<v12.heap.size from block_lt z12.out)
     go_wp2_with fail
     refine hK.out _ _ (⟨hHeld.1.trans (hB.mono hHeld.1.size),Zab hB hHeld.2.1,Zab hB hHeld.2.2⟩) fun hHeld=>?_
     clear hK K
     try simp only[sQ]
     refine' tkH 14 rfl (Yb1 (by rfl) _ _ rfl _ _ ((bl.out _ _ _)) rfl) ?_
     simp only[sQ]
     refine rdH 15 rfl fun K hK=>?_
     refine Zaj rfl 26 (.tmp 4) (.tmp 64) rfl (w.heap.size+1+1) _ rfl rfl 26 zLnC z13.out (jl.out _ _ _) (zl.out _ _ _) (ol.out _ _ _) ?_
     intro w15 d15 hG15
     have O15:=hid (OwnQ.keptAtQ o13 hG15 s13.out s13.out)
     refine hK.out _ _ (⟨hHeld.1.grown hG15 hHeld.1.size (fun g e=>by injection e with e;omega),Zak hHeld.2.1 (fun hb=>hG15.block _ hb (by first|(simp;done)|(simp;omega))),Zak hHeld.2.2 (fun hb=>hG15.block _ hb (by first|(simp;done)|(simp;omega)))⟩) fun hHeld=>?_
     clear hK K
     try simp only[sQ]
     refine dnN ?_
     have W15:=hid hHeld.1
     have X15:=hid hHeld.2.1
     have z15:=hid d15
     have Z15:=hid (Zae d15)
     clear hHeld d15 hG15 o13 z7 z12 z13 q7 q12 hcat
     go_wp2
     refine wp_region_noPanic ?_
     refine wp_region_held_drew (S:=fun W=>Below w.heap.size w W∧W.rangeAt w.heap.size 0 cl∧W.rangeAt (w.heap.size+1+1) 0 (lnC d A13 fl.length c13)) (by kernel_rfl) ?_ (fun hHeld=>?_)
     ·exact⟨W15.out.trans ((Zao w15).mono W15.out.size),Zab (Zao w15) X15.out,Zab (Zao w15) Z15.out⟩
     refine' tkM 0 rfl (fun _ h=>h.2.2) hul (jl.out _ _ _) ?_
     refine' tkP 1 rfl ?_
     refine' tkF 2 (fun W hSw=>(hbx.out _ hSw.2.1).2) rfl ?_
     refine' tkP 3 rfl ?_
     simp only[sQ]
     refine' tkP 4 rfl ?_
     simp only[sQ]
     refine' tkH 5 rfl (Yb2 (by rfl) _ _ _ _ _ rfl _ _ _ _ _ (sl3.out) rfl rfl rfl rfl) ?_
     simp only[sQ]
     refine rdH 6 rfl fun K hK=>?_
     go_simp
     refine(hCl.out _ (hRW.out _ hHeld.1)).mono ?_
     rintro e v16 ⟨A9,c9,rfl,o9,hB⟩
     have z9:=hid ((hB.block _ (block_lt (show w15.drew.heap[w.heap.size+1+1]? =_ from z15.out))).trans z15.out)
     have O9:=hid ((O15.out.bel (Zao w15)).bel hB)
     have s9:=hid (show w.heap.size+1+1<w15.drew.heap.size from block_lt (show w15.drew.heap[w.heap.size+1+1]? =_ from z15.out))
     go_wp2_with fail
     refine hK.out _ _ (⟨hHeld.1.trans (hB.mono hHeld.1.size),Zab hB hHeld.2.1,Zab hB hHeld.2.2⟩) fun hHeld=>?_
     clear hK K
     try simp only[sQ]
     refine rdH 7 rfl fun K hK=>?_
     refine Zaj rfl 26 (.tmp 4) (.tmp 65) rfl (w.heap.size+1+1) _ rfl rfl 26 _ z9.out (jl.out _ _ _) rfl (ol.out _ _ _) ?_
     intro wA dA hGA
     have OA:=hid (OwnQ.keptAtQ O9.out hGA s13.out s13.out)
     have PA:=hid (OwnQ.keptAtQ o9 hGA s9.out s9.out)
     refine hK.out _ _ (⟨hHeld.1.grown hGA hHeld.1.size (fun g e=>by injection e with e;omega),Zak hHeld.2.1 (fun hb=>hGA.block _ hb (by first|(simp;done)|(simp;omega))),Zae dA⟩) fun hHeld=>?_
     clear hK K
     try simp only[sQ]
     refine' tkW 8 9 ?_
     simp only[sQ]
     refine dnN ?_
     go_wp2
     refine Vy0 (v:=.tuple #[.agg (lnC d A13 fl.length c13).toArray,.slice A9 (nx-k) c9,.int .i64 0]) ?_ rfl ⟨A13,c13,A9,c9,by rw[hol],OwnR.base OA.out ?_,OwnR.base PA.out ?_,hHeld.1⟩
     ·exact Ypa Tryd.results7 _ _ (w.heap.size+1+1) 26 _ (0,0) _ _ _ rfl rfl rfl dA rfl hul (jl.out _ _ _)
     ·have:=s13.out;omega
     ·have:=s9.out;omega
end Go.Proofs.YtimaoonpgilekaaDoor
