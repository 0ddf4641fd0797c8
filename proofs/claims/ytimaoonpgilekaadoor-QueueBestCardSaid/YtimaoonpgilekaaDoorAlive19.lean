import Derived.Test.YtimaoonpgilekaaDoorQuE
import Derived.Test.YtimaoonpgilekaaDoorQuS
import Derived.Test.YtimaoonpgilekaaDoorQuN
import Derived.Test.YtimaoonpgilekaaDoorRef19a
set_option linter.all false
set_option maxHeartbeats 4000000
namespace Go.Proofs.YtimaoonpgilekaaDoor
open Go.RowKit
set_option maxRecDepth 100000
theorem Ypp(xs:List Tx):((xs.map txC).flatten).length=xs.length * 99:=by
 induction xs with
 |nil=>rfl
 |cons x r ih=>simp only[List.map_cons,List.flatten_cons,Vx3,ZgR,ih,List.length_cons];omega
theorem Yqj(xs:List Tx)(hok:∀x∈xs,x.ok)(hl:xs.length≤1000)(w:World)(E:TypeId):OwnR E (w.alloc (.cells ((xs.map txC).flatten).toArray E)) w.heap.size (some ⟨w.heap.size,0,none⟩) xs.length xs:=by
 have hE:Enc.size Tx=99:=rfl
 refine⟨fun _=>False,⟨xs.map txC,by simp,⟨by rw[Ypp,hE],.inr ⟨w.heap.size,xs.length,_,rfl,Vx8 _,Vx0 _ _,Vx8 _,by unfold maxLen;omega,by rw[Vx7,Ypp,hE],by rw[List.take_of_length_le];rw[Ypp,hE];exact Vx8 _⟩⟩,?_,fun _ _ h=>h⟩,fun b h=>h.elim⟩
 intro j x vs hx hv
 rw[List.getElem?_map,hx]at hv
 injection hv with hv
 subst hv
 exact YoS x (hok x (List.mem_of_getElem? hx))
theorem Ypc{w:World}{ops:Array Oper}{rest:List Oper}{o:Oper}{a:Act}{Q:Exit→Act→World→Prop}(hg:Region.wanted o (yielded ops a.tmps)=true)(n:Nat)(parts:Array (Nat×Operand))(hop:o.op=.buildSlice 24 n parts)(xs:List Tx)(vs:List Value)(hvs:vs=xs.map fun x=>Value.agg (txC x).toArray)(hn:xs.length=n)(h0:0<n)(hsm:n≤1000)(hok:∀x∈xs,x.ok)
  (hp:parts.toList.map (fun (i,x)=>(i,a.eval x))=(vs.zipIdx 0).map fun x=>(x.2,x.1))
  (hK:∀g w',OwnR 33 w' w.heap.size (some ⟨g,0,none⟩) n xs→Below w.heap.size w w'→wpList Tryd.prog ops Q rest (a.put o.dst (.slice (some ⟨g,0,none⟩) n n)) w'):wpList Tryd.prog ops Q (o::rest) a w:=by
 subst hvs
 have h:=Yqj xs hok (by omega) w 33
 rw[hn]at h
 refine wpList_step fun _ hK2=>?_
 rw[if_pos hg]
 have he:(parts.map fun (i,x)=>(i,a.eval x))=(((xs.map fun x=>Value.agg (txC x).toArray).zipIdx 0).map fun x=>(x.2,x.1)).toArray:=by
  apply Array.ext'
  rw[Array.toList_map,hp]
 unfold Oper.wp execOp
 simp only[hop,he,Sem.run_bind,Zfg slotTxQ n (xs.map txC) (by rw[Vx6];exact hn) h0 (by have hE:Enc.size Tx=99:=rfl;rw[hE];omega) (by intro cs hcs;obtain⟨x,-,rfl⟩:=List.mem_map.1 hcs;exact ZgR x) (xs.map fun x=>Value.agg (txC x).toArray) (by rw[List.map_map,List.map_map];rfl) w,Result.andThen_ok]
 exact hK2 _ _ (hK _ _ h (Zad _ _))
theorem YpB{n f:Nat}(hn:n<18446744073709551616)(hf:f<18446744073709551616):(oneQ n f).ok:=⟨hn,(by decide:0<18446744073709551616),hf⟩
theorem YpQ(n f:Nat):Tryd.prog.built 33 [(2,.int .u64 (n:Int)),(4,.int .u64 (f:Int))]=some (txC ⟨zDq,zDq,n,0,f,zDq⟩).toArray:=by kernel_rfl
theorem Ypf(n f:Nat)(hn:n<18446744073709551616)(hf:f<18446744073709551616)(w:World)(hT:Tab w):Calls Tryd.prog 9 #[.int .u64 (n:Int),.int .u64 (f:Int)] w fun e w'=>e=.returned (.agg (txC (oneQ n f)).toArray)∧Below w.heap.size w w':=by
 have hux:=Tryd.underlying33
 have z0:=hid (Vx0 w (.cells zTxC 33))
 have W0:=hid (Zad w (.cells zTxC 33))
 have hS:=hid (fun W hW=>Zc2 ⟨zDq,zDq,n,0,f,zDq⟩ ⟨hn,(by decide:0<18446744073709551616),hf⟩ W hW)
 have hT1:=hid (hT.bel W0.out hT.low)
 have hb:=hid (YpQ n f)
 have jx:=hid (Zby (oneQ n f))
 have ax:=hid (Zb2 (oneQ n f))
 have zx:=hid (ZcS (oneQ n f))
 have ox:=hid (Zdw (oneQ n f))
 have e1:signX ⟨zDq,zDq,n,0,f,zDq⟩=oneQ n f:=rfl
 rw[e1]at hS
 clear e1 hT
 generalize txC (oneQ n f)=cx at *
 generalize txC ⟨zDq,zDq,n,0,f,zDq⟩=cy at *
 go_enter Tryd.func9,Tryd.ntmps9
 go_wp2_with (first
  |(with_reducible refine Zac rfl 33 rfl zTxC Zbv ?_)
  |((with_reducible refine Zaf rfl 33 _ rfl cy.toArray [(2,.int .u64 (n:Int)),(4,.int .u64 (f:Int))] ?_ ?_ ?_);exact hb.out;rfl))
 refine(hS.out _ hT1.out).mono ?_
 rintro e w3 ⟨rfl,hb3⟩
 have z3:=hid ((hb3.block _ (block_lt z0.out)).trans z0.out)
 have W3:=hid (W0.out.trans (hb3.mono W0.out.size))
 clear hb3
 go_wp2_with (((with_reducible refine stW 4 8 w.heap.size 33 zTxC ?_ ?_ ?_ ?_ ?_);exact z3.out;exact ax.out;exact zx.out;exact ox.out;intro w6 hg6 hb6 hs6))
 refine Vy0 (v:=.agg cx.toArray) ?_ rfl ⟨rfl,?_⟩
 ·exact results_cell_row Tryd.results9 _ _ w.heap.size 33 _ (0,0) _ rfl hg6 hux rfl jx.out
 ·exact W3.out.grown hb6 W3.out.size (fun g e=>by injection e with e;omega)
theorem Yqg:∀x∈lineQ.xs,x.ok:=by
 intro x hx
 have hx:x∈[oneQ 3 1,oneQ 4 1,oneQ 6 1]:=hx
 simp only[List.mem_cons,List.not_mem_nil,or_false]at hx
 rcases hx with rfl|rfl|rfl<;>exact YpB (by decide) (by decide)
theorem YpR:Tryd.prog.built 23 []=some (zDq.1.map bv).toArray:=by kernel_rfl
theorem YpF(w:World)(hT:Tab w):Calls Tryd.prog 8 #[] w fun e w'=>∃A',e=.returned (.agg (lnC lineQ.d A' 3 3).toArray)∧Row (fun _=>True) w' A' lineQ.xs∧Below w.heap.size w w':=by
 have hul:=Tryd.underlying26
 have z0:=hid (Vx0 w (.cells zLnC 26))
 have W0:=hid (Zad w (.cells zLnC 26))
 have hK:=hid (fun W hW=>ZfF zDq W hW)
 have hD:(keyD zDq).1.map bv=lineQ.d.1.map bv:=rfl
 rw[hD]at hK
 have h3:=hid (fun W hW=>Ypf 3 1 (by decide) (by decide) W hW)
 have h4:=hid (fun W hW=>Ypf 4 1 (by decide) (by decide) W hW)
 have h6:=hid (fun W hW=>Ypf 6 1 (by decide) (by decide) W hW)
 have hT1:=hid (hT.bel W0.out hT.low)
 have hl1:=hid hT1.out.low
 have hz:=hid YpR
 have hb:=hid (fun A=>YoN lineQ.d A 3 3)
 have js:=hid (fun A=>YoL lineQ.d A 3 3)
 have zs:=hid (fun A=>YoY lineQ.d A 3 3)
 have os:=hid (fun A=>YoZ lineQ.d A 3 3)
 have hv:[Value.agg (txC (oneQ 3 1)).toArray,.agg (txC (oneQ 4 1)).toArray,.agg (txC (oneQ 6 1)).toArray]=lineQ.xs.map fun x=>Value.agg (txC x).toArray:=rfl
 have hlen:lineQ.xs.length=3:=rfl
 have hoks:=hid Yqg
 replace hv:=hid hv
 replace hlen:=hid hlen
 clear hT hD
 generalize zDq.1.map bv=cz at *
 generalize hcd:lineQ.d.1.map bv=cd at *
 generalize lineQ.d=ld at *
 generalize lineQ.xs=lx at *
 generalize txC (oneQ 3 1)=c3 at *
 generalize txC (oneQ 4 1)=c4 at *
 generalize txC (oneQ 6 1)=c6 at *
 replace hcd:=hid hcd
 go_enter Tryd.func8,Tryd.ntmps8
 go_wp2_with (first
  |(with_reducible refine Zac rfl 26 rfl zLnC YoX ?_)
  |((with_reducible refine Zaf rfl 23 _ rfl cz.toArray [] ?_ ?_ ?_);exact hz.out;rfl))
 generalize w.alloc (.cells zLnC 26)=w0 at *
 refine(hK.out _ hT1.out).mono ?_
 rintro e w1 ⟨rfl,B1⟩
 go_wp2_with fail
 refine(h3.out _ (hT1.out.bel B1 hl1.out)).mono ?_
 rintro e w2 ⟨rfl,B2⟩
 replace B2:=B1.trans (B2.mono B1.size)
 go_wp2_with fail
 refine(h4.out _ (hT1.out.bel B2 hl1.out)).mono ?_
 rintro e w3 ⟨rfl,B3⟩
 replace B3:=B2.trans (B3.mono B2.size)
 go_wp2_with fail
 refine(h6.out _ (hT1.out.bel B3 hl1.out)).mono ?_
 rintro e w4 ⟨rfl,B4⟩
 replace B4:=B3.trans (B4.mono B3.size)
 have W4:=hid (W0.out.trans (B4.mono W0.out.size))
 have z4:=hid ((B4.block _ (block_lt z0.out)).trans z0.out)
 have s4:=hid (show w.heap.size<w4.heap.size from block_lt z4.out)
 clear B1 B2 B3 B4 hK h3 h4 h6
 go_wp2_with (first
  |((refine Ypc rfl 3 _ rfl lx [.agg c3.toArray,.agg c4.toArray,.agg c6.toArray] hv.out hlen.out (by decide) (by decide) hoks.out rfl ?_);intro g5 w5 o5 B5;have R5:=hid (OwnR.row o5);have W5:=hid (W4.out.trans (B5.mono W4.out.size));have z5:=hid ((B5.block _ (block_lt z4.out)).trans z4.out);clear o5 B5)
  |((with_reducible refine Zaf rfl 26 _ rfl (lnC ld (some ⟨g5,0,none⟩) 3 3).toArray [(0,.agg cd.toArray),(1,.slice (some ⟨g5,0,none⟩) 3 3)] ?_ ?_ ?_);exact hb.out _;rfl)
  |((with_reducible refine stW 0 7 w.heap.size 26 zLnC ?_ ?_ ?_ ?_ ?_);exact z5.out;exact js.out _;exact zs.out _;exact os.out _;intro w6 hg6 hb6 hs6))
 refine Vy0 (v:=.agg (lnC ld (some ⟨g5,0,none⟩) 3 3).toArray) ?_ rfl ⟨_,rfl,?_,?_⟩
 ·exact results_cell_row Tryd.results8 _ _ w.heap.size 26 _ (0,0) _ rfl hg6 hul rfl (js.out _)
 ·exact(R5.out.kept (fun b hb hl=>hb6.block b hl (fun e=>by injection e with e;have:=s4.out;omega)) hb6.size).mono fun _ _ _=>trivial
 ·exact W5.out.grown hb6 W5.out.size (fun g e=>by injection e with e;omega)
theorem Ypv{fn:Func}{p r:Tmp}{ty:TypeId}(h:fn.results=#[.cell p ty,.tmp r])(tmps:Array Value)(w:World)(g:Nat)(t:TypeId)(cs:Array Value)(fr:Nat×Nat)(d:TypeDesc)(v:Value)
  (hp:tmps.getD p undef=.pointer (some ⟨g,0,none⟩)) (hv:tmps.getD r undef=v) (hg:w.heap[g]? =some (.cells cs t fr))
  (hd:(match d with| .struct _| .array _ _=>true|_=>false)=true) (hu:Tryd.prog.underlying ty=some d) (hi:(Tryd.prog.info? ty).map (·.size)=some cs.size):
  (results fn tmps).run Tryd.prog w=.ok (.tuple #[.agg cs,v]) w:=by
 have hp':tmps[p]?.getD undef=.pointer (some ⟨g,0,none⟩):=by simpa using hp
 have hv':tmps[r]?.getD undef=v:=by simpa using hv
 have h2:=run_loadVar_row (P:=Tryd.prog) w g t ty cs fr d hg hu (by cases d<;>first|exact hd|rfl) hi
 simp[results,h,hp',hv',asAddr,h2]
def hitV(o:Option Tx):Ending:=.returned (.tuple #[.agg (txC (o.getD zX)).toArray,.bool o.isSome])
theorem Yqd{xs:List Tx}{n j:Nat}(hj:j<xs.length)(h:hitX (xs.take j) n=none)(h2:xs[j].n=n):hitX xs n=some xs[j]:=by
 unfold hitX at h ⊢
 have e:xs=xs.take j++xs[j]::xs.drop (j+1):=by rw[← List.drop_eq_getElem_cons hj,List.take_append_drop]
 conv=>lhs;rw[e]
 rw[List.find?_append,h,Option.none_or,List.find?_cons,Vy2 h2]
theorem Yqe{xs:List Tx}{n j:Nat}(hj:j<xs.length)(h:hitX (xs.take j) n=none)(h2:¬xs[j].n=n):hitX (xs.take (j+1)) n=none:=by
 unfold hitX at h ⊢
 rw[Vy5 hj,List.find?_append,h,Option.none_or,List.find?_cons,Vy1 h2]
 rfl
theorem YpD{F:Nat→Prop}{w:World}{D:Option Addr}{xs:List Tx}(h:Row F w D xs){j:Nat}(hj:j<xs.length):∃b o,D=some ⟨b,o,none⟩∧w.rangeAt b (o+j * 99) (txC xs[j])∧w.cell? ⟨b,o+j * 99+64,none⟩=some (.int .u64 (xs[j].n:Int))∧xs[j].ok:=by
 obtain⟨b,o,h1,h2,h3⟩:=Yoa h hj
 refine⟨b,o,h1,h2,h2 64 _ ?_,h3⟩
 have e:txC xs[j]=(xs[j].p.1.map bv++xs[j].t.1.map bv)++(.int .u64 (xs[j].n:Int)::([.int .u64 (xs[j].a:Int),.int .u64 (xs[j].f:Int)]++xs[j].s.1.map bv)):=by simp[txC,txS]
 rw[e,List.getElem?_append_right (by simp[xs[j].p.2,xs[j].t.2])]
 simp[xs[j].p.2,xs[j].t.2]
theorem Yps(F:Nat→Prop)(d:Dg)(A:Option Addr)(c n:Nat)(xs:List Tx)(w:World)(hr:Row F w A xs)(hc:xs.length≤1000000):
  Calls Tryd.prog 26 #[.agg (lnC d A xs.length c).toArray,.int .u64 (n:Int)] w fun e w'=>e=hitV (hitX xs n)∧Below w.heap.size w w':=by
 have hux:=Tryd.underlying33
 obtain⟨hx,hhx⟩:∃o,hitX xs n=o:=⟨_,rfl⟩
 rw[hhx]
 have K1:=hid (fun (j:Nat) (hj:j<xs.length) h h2=>hhx.symm.trans (Yqd (n:=n) hj h h2))
 have K2:=hid (fun (h:hitX xs n=none)=>hhx.symm.trans h)
 have K3:=hid (fun (j:Nat) (hj:j<xs.length) h h2=>Yqe (n:=n) hj h h2)
 have e1:=Zad w (.cells (lnC d A xs.length c).toArray 26)
 have e2:=Zad (w.alloc (.cells (lnC d A xs.length c).toArray 26)) (.cells zTxC 33)
 have z0:=Vx0 w (.cells (lnC d A xs.length c).toArray 26)
 replace z0:=(e2.block _ (block_lt z0)).trans z0
 have z1:=Vx0 (w.alloc (.cells (lnC d A xs.length c).toArray 26)) (.cells zTxC 33)
 rw[Vx2]at z1
 have W0:=hid (Zag e1 e2)
 have c0:=(BoxL.of (Zae z0)).x
 have R0:=hid (hr.bel W0.out)
 replace z1:=hid z1
 clear e1 e2 z0 hr hhx
 generalize lnC d A xs.length c=cl at *
 go_enter Tryd.func26,Tryd.ntmps26
 go_wp2_with ((with_reducible refine Zac rfl 33 rfl zTxC Zbv ?_))
 generalize (w.alloc (.cells cl.toArray 26)).alloc (.cells zTxC 33)=w0 at *
 go_loopw [6] (fun i wr=>∃j:Nat,j≤xs.length∧i=.int .i64 j∧hitX (xs.take j) n=none∧wr=w0) (fun i _=>xs.length-(intOf i).toNat)
 case atStart=>exact⟨0,Nat.zero_le _,rfl,rfl,rfl⟩
 case round=>
  obtain⟨j,hj,rfl,hrel,rfl⟩:=hrel
  by_cases hlt:j<xs.length
  ·obtain⟨b,o,hA,r1,cn,m1⟩:=YpD R0.out hlt
   subst hA
   have K1j:=hid (K1.out j hlt hrel)
   have K3j:=hid (K3.out j hlt hrel)
   have jx:=hid (Zby xs[j])
   have ax:=hid (Zb2 xs[j])
   have zx:=hid (ZcS xs[j])
   have ox:=hid (Zdw xs[j])
   have hlt2:(j:Int)<(xs.length:Int):=by omega
   have q1:=hid r1
   replace hrel:=hid hrel
   clear r1 m1
   by_cases heq:xs[j].n=n
   ·have e1:=K1j.out heq
    subst e1
    have hq:((xs[j].n:Int)==(n:Int))=true:=by rw[heq];simp
    have hres:hitV (some xs[j])=.returned (.tuple #[.agg (txC xs[j]).toArray,.bool true]):=rfl
    replace hres:=hid hres
    clear K1j K3j heq K1 K3
    generalize txC xs[j]=d1 at *
    generalize xs[j].n=nj at *
    go_wp2_with (first
     |(with_reducible refine lDr q1.out jx.out hux ?_)
     |((with_reducible refine stW 4 26 (w.heap.size+1) 33 zTxC ?_ ?_ ?_ ?_ ?_);exact z1.out;exact ax.out;exact zx.out;exact ox.out;intro w6 hg6 hb6 hs6))
    refine Vy0 (v:=.tuple #[.agg d1.toArray,.bool true]) ?_ rfl ⟨hres.out.symm,W0.out.grown hb6 W0.out.size (fun g e=>by injection e with e;omega)⟩
    exact Ypv Tryd.results26 _ _ (w.heap.size+1) 33 _ (0,0) _ _ rfl rfl hg6 rfl hux ax.out
   ·have hq:((xs[j].n:Int)==(n:Int))=false:=beq_eq_false_iff_ne.2 (by omega)
    replace K3j:=hid (K3j.out heq)
    clear K1j heq
    generalize txC xs[j]=d1 at *
    generalize xs[j].n=nj at *
    go_wp2
    go_roundw
    case rel=>exact⟨j+1,by omega,by go_num,K3j.out,(by first|rfl|trivial)⟩
    case measure=>simp[intOf];omega
  ·obtain rfl:j=xs.length:=by omega
   rw[List.take_length]at hrel
   have e1:=K2.out hrel
   subst e1
   have hres:hitV none=.returned (.tuple #[.agg zTxC,.bool false]):=rfl
   replace hres:=hid hres
   replace hrel:=trivial
   go_wp2_with (first
    |((with_reducible refine Zaf rfl 33 _ rfl zTxC [] ?_ ?_ ?_);exact Zfa;rfl)
    |((with_reducible refine stW 4 27 (w.heap.size+1) 33 zTxC ?_ ?_ ?_ ?_ ?_);exact z1.out;exact Zb2 zX;rfl;exact Zdw zX;intro w6 hg6 hb6 hs6))
   refine Vy0 (v:=.tuple #[.agg zTxC,.bool false]) ?_ rfl ⟨hres.out.symm,W0.out.grown hb6 W0.out.size (fun g e=>by injection e with e;omega)⟩
   exact Ypv Tryd.results26 _ _ (w.heap.size+1) 33 _ (0,0) _ _ rfl rfl hg6 rfl hux (Zb2 zX)
theorem Ypd(ps:List Tx)(n:Nat)(hn:ps.length=n)(h1:n≤1000)(A D:Option Addr)(c d:Nat)(w:World)(hr:Row (fun _=>True) w A ps)(hs:Row (fun _=>True) w D ps):
  Calls Tryd.prog 13 #[.slice A n c,.slice D n d] w fun e w'=>e=.returned (.bool true)∧Below w.heap.size w w':=by
 subst hn
 have:=You (fun _=>True) (fun _=>True) A D c d ps ps w hr hs (by omega) (by omega)
 rw[Vy2 rfl]at this
 exact this
theorem ok_one{n f:Nat}(hn:n<18446744073709551616)(hf:f<18446744073709551616):∀x∈[oneQ n f],x.ok:=by
 intro x hx
 rw[Vy4]at hx;subst hx;exact YpB hn hf
theorem Row.any{α:Type}[Enc α]{F:Nat→Prop}{w:World}{A:Option Addr}{xs:List α}(h:Row F w A xs):Row (fun _=>True) w A xs:=h.mono fun _ _ _=>trivial
theorem Ypo(w:World)(hT:Tab w):Calls Tryd.prog 12 #[] w fun e w'=>e=.returned (.bool true)∧Below w.heap.size w w':=by
 have hLn:=hid (fun W hW=>YpF W hW)
 have hR3:=hid (fun A W (h:Row (fun _=>True) W A lineQ.xs) hW=>show Calls Tryd.prog 11 #[.agg (lnC lineQ.d A 3 3).toArray,.int .u64 3] W fun e w'=>∃A' c',e=.returned (.tuple #[.slice A' 2 c',.int .i64 0])∧OwnR 33 w' W.heap.size A' c' [oneQ 3 1,oneQ 4 1]∧Below W.heap.size W w' by
  have:=Ypg (fun _=>True) lineQ.d A 3 3 lineQ.xs W h (show 3≤1000000 by decide) (Vx8 _) (by decide) hW
  rw[show readyL ⟨lineQ.d,lineQ.xs⟩ 3=[oneQ 3 1,oneQ 4 1] from Yo0,show checkL ⟨lineQ.d,lineQ.xs⟩=0 from (Yph (n:=0) YnW).2.2]at this
  exact this)
 have hR5:=hid (fun A W (h:Row (fun _=>True) W A lineQ.xs) hW=>show Calls Tryd.prog 11 #[.agg (lnC lineQ.d A 3 3).toArray,.int .u64 5] W fun e w'=>∃A' c',e=.returned (.tuple #[.slice A' 0 c',.int .i64 0])∧OwnR 33 w' W.heap.size A' c' ([]:List Tx)∧Below W.heap.size W w' by
  have:=Ypg (fun _=>True) lineQ.d A 3 5 lineQ.xs W h (show 3≤1000000 by decide) (Vx8 _) (by decide) hW
  rw[show readyL ⟨lineQ.d,lineQ.xs⟩ 5=[] from Yo1,show checkL ⟨lineQ.d,lineQ.xs⟩=0 from (Yph (n:=0) YnW).2.2]at this
  exact this)
 have hP4:=hid (fun A W (h:Row (fun _=>True) W A lineQ.xs) hW=>show Calls Tryd.prog 18 #[.agg (lnC lineQ.d A 3 3).toArray,.int .u64 4] W fun e w'=>∃A' c' D' e',e=.returned (.tuple #[.agg (lnC lineQ.d A' 2 c').toArray,.slice D' 1 e',.int .i64 0])∧OwnR 33 w' W.heap.size A' c' [oneQ 4 1,oneQ 6 1]∧OwnR 33 w' W.heap.size D' e' [oneQ 3 1]∧Below W.heap.size W w' by
  have:=Ypt (fun _=>True) lineQ.d A 3 4 lineQ.xs W h (show 3≤1000000 by decide) (Vx8 _) hW
  rw[show pastL ⟨lineQ.d,lineQ.xs⟩ 4=⟨lineQ.d,[oneQ 4 1,oneQ 6 1]⟩ from Yo7.1,show pastG ⟨lineQ.d,lineQ.xs⟩ 4=[oneQ 3 1] from Yo7.2,show checkL ⟨lineQ.d,lineQ.xs⟩=0 from (Yph (n:=0) YnW).2.2]at this
  exact this)
 have h3:=hid (fun W hW=>Ypf 3 1 (by decide) (by decide) W hW)
 have h4:=hid (fun W hW=>Ypf 4 1 (by decide) (by decide) W hW)
 have hS2:=hid (fun A D c d W h1 h2=>Ypd [oneQ 3 1,oneQ 4 1] 2 rfl (by decide) A D c d W h1 h2)
 have hS1:=hid (fun A D c d W h1 h2=>Ypd [oneQ 3 1] 1 rfl (by decide) A D c d W h1 h2)
 have hv2:[Value.agg (txC (oneQ 3 1)).toArray,.agg (txC (oneQ 4 1)).toArray]=[oneQ 3 1,oneQ 4 1].map fun x=>Value.agg (txC x).toArray:=rfl
 have hv1:[Value.agg (txC (oneQ 3 1)).toArray]=[oneQ 3 1].map fun x=>Value.agg (txC x).toArray:=rfl
 have hn2:Hid ([oneQ 3 1,oneQ 4 1].length=2):=hid rfl
 have hn1:Hid ([oneQ 3 1].length=1):=hid rfl
 have ho2:Hid (∀ x∈[oneQ 3 1,oneQ 4 1],x.ok):=hid (by
  intro x hx
  simp only[List.mem_cons,List.not_mem_nil,or_false]at hx
  rcases hx with rfl|rfl<;>exact YpB (by decide) (by decide))
 have ho1:Hid (∀ x∈[oneQ 3 1],x.ok):=hid (ok_one (by decide) (by decide))
 have js:=hid (fun A n c=>YoL lineQ.d A n c)
 have zs:=hid (fun A n c=>YoY lineQ.d A n c)
 have os:=hid (fun A n c=>YoZ lineQ.d A n c)
 have hbx:=hid (fun (W:World) (g:Nat) (A:Option Addr) (n c:Nat) (h:W.heap[g]? =some (.cells (lnC lineQ.d A n c).toArray 26 (0,0)))=>(BoxL.of (Zae h)).x)
 replace hv2:=hid hv2
 replace hv1:=hid hv1
 have hlow:=hid hT.low
 have H0:=hid hT
 have W0:=hid (Below.refl w.heap.size w)
 clear hT
 generalize txC (oneQ 3 1)=c3 at *
 generalize txC (oneQ 4 1)=c4 at *
 generalize [oneQ 3 1,oneQ 4 1]=l34 at *
 generalize [oneQ 4 1,oneQ 6 1]=l46 at *
 generalize [oneQ 3 1]=l3 at *
 generalize lineQ.d=ld at *
 generalize lineQ.xs=lx at *
 go_enter Tryd.func12,Tryd.ntmps12
 go_wp2_with fail
 refine(hLn.out _ H0.out).mono ?_
 rintro e w1 ⟨A1,rfl,r1,hb⟩
 have H1:=hid (H0.out.bel hb (Vx4 hlow.out W0.out.size))
 have W1:=hid (W0.out.trans (hb.mono W0.out.size))
 clear H0 W0
 have L1:=hid r1
 clear r1
 clear hb 
 go_wp2_with fail
 refine(hR3.out A1 _ L1.out H1.out).mono ?_
 rintro e w2 ⟨A2,q2,rfl,o2,hb⟩
 have H2:=hid (H1.out.bel hb (Vx4 hlow.out W1.out.size))
 have W2:=hid (W1.out.trans (hb.mono W1.out.size))
 have L2:=hid (L1.out.bel hb)
 clear H1 W1 L1
 have P2:=hid (OwnR.row o2).any
 clear o2
 clear hb 
 clear L2
 go_wp2_with fail
 refine(hLn.out _ H2.out).mono ?_
 rintro e w3 ⟨A3,rfl,r3,hb⟩
 have H3:=hid (H2.out.bel hb (Vx4 hlow.out W2.out.size))
 have W3:=hid (W2.out.trans (hb.mono W2.out.size))
 have P3:=hid (P2.out.bel hb)
 clear H2 W2 P2
 have L3:=hid r3
 clear r3
 clear hb 
 go_wp2_with fail
 refine(hR5.out A3 _ L3.out H3.out).mono ?_
 rintro e w4 ⟨A4,q4,rfl,o4,hb⟩
 have H4:=hid (H3.out.bel hb (Vx4 hlow.out W3.out.size))
 have W4:=hid (W3.out.trans (hb.mono W3.out.size))
 have P4:=hid (P3.out.bel hb)
 have L4:=hid (L3.out.bel hb)
 clear H3 W3 P3 L3
 clear o4
 clear hb 
 clear L4
 go_wp2_with fail
 refine(hLn.out _ H4.out).mono ?_
 rintro e w5 ⟨A5,rfl,r5,hb⟩
 have H5:=hid (H4.out.bel hb (Vx4 hlow.out W4.out.size))
 have W5:=hid (W4.out.trans (hb.mono W4.out.size))
 have P5:=hid (P4.out.bel hb)
 clear H4 W4 P4
 have L5:=hid r5
 clear r5
 clear hb 
 go_wp2_with fail
 refine(hP4.out A5 _ L5.out H5.out).mono ?_
 rintro e w6 ⟨A6,q6,D6,e6,rfl,o6,p6,hb⟩
 have H6:=hid (H5.out.bel hb (Vx4 hlow.out W5.out.size))
 have W6:=hid (W5.out.trans (hb.mono W5.out.size))
 have P6:=hid (P5.out.bel hb)
 have L6:=hid (L5.out.bel hb)
 clear H5 W5 P5 L5
 have G6:=hid (OwnR.row p6).any
 clear o6 p6
 clear hb 
 clear L6
 have e6z:=hid (Vx0 w6 (.cells zLnC 26))
 go_wp2_with (first
  |(with_reducible refine Zac rfl 26 rfl zLnC YoX ?_)
  |((with_reducible refine stW 5 21 w6.heap.size 26 zLnC ?_ ?_ ?_ ?_ ?_);exact e6z.out;exact js.out _ _ _;exact zs.out _ _ _;exact os.out _ _ _;intro w7 hgS hbS hsS;have X7:=hid (Zan rfl hbS);have C7:=hid (hbx.out _ _ _ _ _ hgS);clear hgS hbS hsS;have H7:=hid (H6.out.bel X7.out (Vx4 hlow.out W6.out.size));have W7:=hid (W6.out.trans (X7.out.mono W6.out.size));have P7:=hid (P6.out.bel X7.out);have G7:=hid (G6.out.bel X7.out);clear H6 W6 P6 G6))
 refine(h3.out _ H7.out).mono ?_
 rintro e w8 ⟨rfl,hb⟩
 have H8:=hid (H7.out.bel hb (Vx4 hlow.out W7.out.size))
 have W8:=hid (W7.out.trans (hb.mono W7.out.size))
 have P8:=hid (P7.out.bel hb)
 have G8:=hid (G7.out.bel hb)
 have C8:=hid ((hb.cell (Vx5 _ _ C7.out)).trans C7.out)
 clear H7 W7 P7 G7 C7
 clear hb 
 go_wp2_with fail
 refine(h4.out _ H8.out).mono ?_
 rintro e w9 ⟨rfl,hb⟩
 have H9:=hid (H8.out.bel hb (Vx4 hlow.out W8.out.size))
 have W9:=hid (W8.out.trans (hb.mono W8.out.size))
 have P9:=hid (P8.out.bel hb)
 have G9:=hid (G8.out.bel hb)
 have C9:=hid ((hb.cell (Vx5 _ _ C8.out)).trans C8.out)
 clear H8 W8 P8 G8 C8
 clear hb 
 go_wp2_with (((refine Ypc rfl 2 _ rfl l34 [.agg c3.toArray,.agg c4.toArray] hv2.out hn2.out (by decide) (by decide) ho2.out rfl ?_);intro g10 w10 o5 B5;have S10:=hid (OwnR.row o5).any;have H10:=hid (H9.out.bel B5 (Vx4 hlow.out W9.out.size));have W10:=hid (W9.out.trans (B5.mono W9.out.size));have P10:=hid (P9.out.bel B5);have G10:=hid (G9.out.bel B5);have C10:=hid ((B5.cell (Vx5 _ _ C9.out)).trans C9.out);clear H9 W9 P9 G9 C9;clear o5 B5))
 refine(hS2.out _ _ _ _ _ P10.out S10.out).mono ?_
 rintro e w11 ⟨rfl,hb⟩
 have H11:=hid (H10.out.bel hb (Vx4 hlow.out W10.out.size))
 have W11:=hid (W10.out.trans (hb.mono W10.out.size))
 have P11:=hid (P10.out.bel hb)
 have G11:=hid (G10.out.bel hb)
 have C11:=hid ((hb.cell (Vx5 _ _ C10.out)).trans C10.out)
 have S11:=hid (S10.out.bel hb)
 clear H10 W10 P10 G10 C10 S10
 clear hb 
 clear P11
 clear S11
 have c11:=C11.out
 go_wp2_with fail
 refine(h3.out _ H11.out).mono ?_
 rintro e w12 ⟨rfl,hb⟩
 have H12:=hid (H11.out.bel hb (Vx4 hlow.out W11.out.size))
 have W12:=hid (W11.out.trans (hb.mono W11.out.size))
 have G12:=hid (G11.out.bel hb)
 have C12:=hid ((hb.cell (Vx5 _ _ C11.out)).trans C11.out)
 clear H11 W11 G11 C11
 clear hb 
 go_wp2_with (((refine Ypc rfl 1 _ rfl l3 [.agg c3.toArray] hv1.out hn1.out (by decide) (by decide) ho1.out rfl ?_);intro g13 w13 o5 B5;have S13:=hid (OwnR.row o5).any;have H13:=hid (H12.out.bel B5 (Vx4 hlow.out W12.out.size));have W13:=hid (W12.out.trans (B5.mono W12.out.size));have G13:=hid (G12.out.bel B5);have C13:=hid ((B5.cell (Vx5 _ _ C12.out)).trans C12.out);clear H12 W12 G12 C12;clear o5 B5))
 refine(hS1.out _ _ _ _ _ G13.out S13.out).mono ?_
 rintro e w14 ⟨rfl,hb⟩
 have H14:=hid (H13.out.bel hb (Vx4 hlow.out W13.out.size))
 have W14:=hid (W13.out.trans (hb.mono W13.out.size))
 have G14:=hid (G13.out.bel hb)
 have C14:=hid ((hb.cell (Vx5 _ _ C13.out)).trans C13.out)
 have S14:=hid (S13.out.bel hb)
 clear H13 W13 G13 C13 S13
 clear hb 
 go_wp2
 go_ret
 exact⟨rfl,W14.out⟩
end Go.Proofs.YtimaoonpgilekaaDoor
