import Derived.Test.YtimaoonpgilekaaDoorRef19c
set_option linter.all false
set_option maxHeartbeats 8000000
namespace Go.Proofs.YtimaoonpgilekaaDoor
open Go.RowKit
set_option maxRecDepth 100000
theorem run_stop{xs:List Tx}(hs:soB xs=true){n:Nat}(h:hasN xs n=false):runF (xs.drop (cntN xs n)) n=[]:=by
 have h2:=Yo4 (h:=xs.drop (cntN xs n)) (n:=n) (j:=0) (Nat.zero_le _) (fun i hi=>absurd hi (by omega)) (fun hk=>by
  rw[List.length_drop]at hk
  have h3:=Yqv hs (n:=n) (by omega)
  rw[h]at h3
  have h4:=of_decide_eq_false h3.symm
  simpa using h4)
 rw[h2];rfl
theorem run_go{xs:List Tx}(hs:soB xs=true){n:Nat}(h:hasN xs n=true):∃hk:cntN xs n<xs.length,xs[cntN xs n].n=n∧runF (xs.drop (cntN xs n)) n=xs[cntN xs n]::runF (xs.drop (cntN xs (n+1))) (n+1):=by
 have hk:=Yoy hs h
 have h3:=Yqv hs (n:=n) hk
 rw[h]at h3
 have h4:xs[cntN xs n].n=n:=of_decide_eq_true h3.symm
 refine⟨hk,h4,?_⟩
 have e:cntN xs (n+1)=cntN xs n+1:=Yog (by omega) (fun i hi=>by
  rcases Nat.lt_or_ge i (cntN xs n) with h5|h5
  ·have:=cnt_lt h5;omega
  ·have e:i=cntN xs n:=by omega
   subst e;omega) (fun h5=>by have:=Yn8 hs h5 (Nat.lt_succ_self _);omega)
 rw[e,List.drop_eq_getElem_cons hk]
 conv=>lhs;unfold runF
 rw[if_pos h4]
theorem run_top{xs:List Tx}(hs:soB xs=true)(hok:∀j (hj:j<xs.length),xs[j].n<18446744073709551616):runF (xs.drop (cntN xs 18446744073709551616)) 18446744073709551616=[]:=by
 have e:cntN xs 18446744073709551616=xs.length:=Yog (Vx8 _) (fun i hi=>hok i hi) (fun h=>absurd h (Nat.lt_irrefl _))
 rw[e,List.drop_length];rfl
theorem RRunLn_any(F:Nat→Prop)(d:Dg)(A:Option Addr)(c n:Nat)(xs:List Tx)(w:World)(hr:Row F w A xs)(hso:soB xs=true)(hn:n<18446744073709551616)(hc:xs.length≤1000):
  Calls Tryd.prog 41 #[.agg (lnC d A xs.length c).toArray,.int .u64 (n:Int)] w fun e w'=>∃A' c',e=.returned (.slice A' (runF (xs.drop (cntN xs n)) n).length c')∧OwnR 33 w' w.heap.size A' c' (runF (xs.drop (cntN xs n)) n)∧Below w.heap.size w w':=by
 obtain⟨R,hR⟩:∃r,runF (xs.drop (cntN xs n)) n=r:=⟨_,rfl⟩
 rw[hR]
 have hRl:R.length≤1000:=by rw[← hR];have:=Yo3 (xs.drop (cntN xs n)) n;rw[List.length_drop]at this;omega
 replace hR:=hid hR
 have hul:=Tryd.underlying26
 have hux:=Tryd.underlying33
 have W0:=hid (Zad w (.cells (lnC d A xs.length c).toArray 26))
 have B0:=BoxL.new w d A xs.length c 26
 have L0:=hid B0.all
 have hx0:=hid (fun (W:World) (h:W.rangeAt w.heap.size 0 (lnC d A xs.length c))=>(BoxL.of h).x)
 have R0:=hid (hr.any.bel W0.out)
 have jl:=hid (YoL d A xs.length c)
 have hF:=hid (fun n W (h:Row (fun _=>True) W A xs)=>RFindLn_any (fun _=>True) d A c n xs W h hso (by omega))
 have hoks:=hid (fun j (hj:j<xs.length)=>(Yoa hr hj).choose_spec.choose_spec.2.2)
 have htop:=hid (run_top hso (fun j hj=>(hoks.out j hj).1))
 have hst:=hid (fun n=>run_stop hso (n:=n))
 have hgo:=hid (fun n=>run_go hso (n:=n))
 clear B0 hr hso
 obtain⟨cl,hcl⟩:∃l,lnC d A xs.length c=l:=⟨_,rfl⟩
 rw[hcl]at L0 W0 R0 hx0 jl hF ⊢
 replace hcl:=hid hcl
 go_enter Tryd.func41,Tryd.ntmps41
 go_wp2
 generalize w.alloc (.cells cl.toArray 26)=w0 at *
 go_loopw [1,5] (fun m v wr=>∃(k:Nat) (os:List Tx) (Ao:Option Addr) (co:Nat),m=.int .u64 (k:Int)∧k<18446744073709551616∧v=.slice Ao os.length co∧os++runF (xs.drop (cntN xs k)) k=R∧OwnR 33 wr w0.heap.size Ao co os∧Below w0.heap.size w0 wr) (fun m _ _=>18446744073709551616-(intOf m).toNat)
 case atStart=>exact⟨n,[],none,0,rfl,hn,rfl,hR.out,OwnR.nil _ _,Below.refl _ _⟩
 case round=>
  obtain⟨k,os,Ao,co,rfl,hk,rfl,hos,ho,hb⟩:=hrel
  have Lr:=hid (Zab hb L0.out)
  have Rr:=hid (R0.out.bel hb)
  have cl0:=hx0.out _ Lr.out
  have hol:os.length≤1000:=by have:=congrArg List.length hos;rw[Vx3]at this;omega
  have hb9:=hid hb
  have ho9:=hid ho
  clear hb ho
  cases hh:hasN xs k
  ·have e1:idxN xs k= -1:=by unfold idxN;rw[hh];rfl
   have hFk:=hF.out k
   rw[e1]at hFk
   have e2:=hst.out k hh
   rw[e2,List.append_nil]at hos
   replace hFk:=hid hFk
   clear e1 e2 hh
   go_wp2_with ((with_reducible refine lDr Lr.out jl.out hul ?_))
   refine(hFk.out _ Rr.out).mono ?_
   rintro e w1 ⟨rfl,hB⟩
   have o1:=hid (ho9.out.bel hB)
   have W1:=hid (W0.out.trans ((hb9.out.trans (hB.mono hb9.out.size)).mono W0.out.size))
   subst hos
   go_wp2
   go_ret
   exact⟨_,_,rfl,OwnR.base o1.out W0.out.size,W1.out⟩
  ·obtain⟨hkx,hnum,hrun⟩:=hgo.out k hh
   have e1:idxN xs k=(cntN xs k:Int):=by unfold idxN;rw[hh];rfl
   have hFk:=hF.out k
   rw[e1]at hFk
   rw[hrun]at hos
   have htop2:=hid (fun e:k+1=18446744073709551616=>show runF (xs.drop (cntN xs (k+1))) (k+1)=[] by rw[e];exact htop.out)
   generalize cntN xs k=p at *
   obtain⟨b,o,hA,-,my⟩:=Yoa R0.out hkx
   obtain⟨b',o',hA',rj,-⟩:=Yoa Rr.out hkx
   subst hA
   obtain⟨rfl,rfl⟩:b=b'∧o=o':=by injection hA' with h;injection h with h1 h2;exact⟨h1,h2⟩
   have hp:(p:Int)<(xs.length:Int):=by omega
   have hp0:¬(p:Int)<0:=by omega
   have jy:=hid (Zby xs[p])
   have hvy:[Value.agg (txC xs[p]).toArray]=[xs[p]].map fun x=>Value.agg (txC x).toArray:=rfl
   have hny:Hid ([xs[p]].length=1):=hid rfl
   have hoy:Hid (∀ z∈[xs[p]],z.ok):=hid (by intro z hz;rw[Vy4]at hz;subst hz;exact my)
   have hrj:=hid (fun (W:World) (h:Below wr.heap.size wr W)=>Zab h rj)
   obtain⟨os2,hos2⟩:∃q,os++[xs[p]]=q:=⟨_,rfl⟩
   have hR2:=hid (show os2++runF (xs.drop (cntN xs (k+1))) (k+1)=R by rw[← hos2,←hos];simp)
   have hl4:=hid (show (os.length+[xs[p]].length) * (120+1)≤140737488355328 by rw[hny.out];omega)
   replace hos2:=hid hos2
   replace hvy:=hid hvy
   replace hFk:=hid hFk
   clear e1 hh hos rj my hA' hnum hrun
   generalize txC xs[p]=cy at *
   obtain⟨yj,hyj⟩:∃y,xs[p]=y:=⟨_,rfl⟩
   rw[hyj]at hvy hny hoy hos2 hl4
   clear hyj
   have key:∀(w1:World),Below wr.heap.size wr w1→Hid (OwnR 33 w1 w0.heap.size Ao co os∧w1.rangeAt b (o+p * 99) cy∧w1.cell? ⟨w.heap.size,32,none⟩=some (.slice (some ⟨b,o,none⟩) xs.length c)∧Below w0.heap.size w0 w1):=fun w1 h=>hid ⟨ho9.out.bel h,hrj.out _ h,hx0.out _ (Zab h Lr.out),hb9.out.trans (h.mono hb9.out.size)⟩
   replace key:=hid key
   go_wp2_with ((with_reducible refine lDr Lr.out jl.out hul ?_))
   refine(hFk.out _ Rr.out).mono ?_
   rintro e w1 ⟨rfl,hB⟩
   have K1:=key.out w1 hB
   have cl1:=K1.out.2.2.1
   clear hB cl0
   by_cases hmax:k=18446744073709551615
   ·have hq:((k:Int)==18446744073709551615)=true:=by rw[hmax];rfl
    have e9:=htop2.out (by omega)
    have hfin:=hid (show os2=R by have:=hR2.out;rw[e9,List.append_nil]at this;exact this)
    subst hmax
    go_wp2_with (first
     |(with_reducible refine lDr K1.out.2.1 jy.out hux ?_)
     |((refine Ypc rfl 1 _ rfl [yj] [.agg cy.toArray] hvy.out hny.out (by decide) (by decide) hoy.out rfl ?_);intro g5 v5 o5 B5;have r5:=hid (YoW (G:=fun _=>False) (OwnR.row o5));have P5:=hid (K1.out.1.bel B5);have D5:=hid (K1.out.2.2.2.trans (B5.mono K1.out.2.2.2.size));clear o5 B5)
     |(at_builtin;refine ZbG slotTxQ rfl (.tmp 13) (.tmp 19) rfl w0.heap.size w0.heap.size Ao (some ⟨g5,0,none⟩) os.length 1 co 1 os [yj] (fun _=>False) rfl rfl rfl hny.out.symm P5.out r5.out (fun b hb=>hb.elim) hl4.out D5.out.size ?_;intro A2 c2 v6 o6 b6;rw[hos2.out]at o6 ⊢;have O2:=hid o6;have B2:=hid (D5.out.trans b6);clear o6 b6))
    go_ret
    have hf:=hfin.out
    rw[hf]at O2 ⊢
    exact⟨_,_,rfl,OwnR.base O2.out W0.out.size,W0.out.trans (B2.out.mono W0.out.size)⟩
   ·have hq:((k:Int)==18446744073709551615)=false:=beq_eq_false_iff_ne.2 (by omega)
    have hw:IntKind.u64.wrap ((k:Int)+1)=(k:Int)+1:=by rw[IntKind.wrap_u64];omega
    go_wp2_with (first
     |(with_reducible refine lDr K1.out.2.1 jy.out hux ?_)
     |((refine Ypc rfl 1 _ rfl [yj] [.agg cy.toArray] hvy.out hny.out (by decide) (by decide) hoy.out rfl ?_);intro g5 v5 o5 B5;have r5:=hid (YoW (G:=fun _=>False) (OwnR.row o5));have P5:=hid (K1.out.1.bel B5);have D5:=hid (K1.out.2.2.2.trans (B5.mono K1.out.2.2.2.size));clear o5 B5)
     |(at_builtin;refine ZbG slotTxQ rfl (.tmp 13) (.tmp 19) rfl w0.heap.size w0.heap.size Ao (some ⟨g5,0,none⟩) os.length 1 co 1 os [yj] (fun _=>False) rfl rfl rfl hny.out.symm P5.out r5.out (fun b hb=>hb.elim) hl4.out D5.out.size ?_;intro A2 c2 v6 o6 b6;rw[hos2.out]at o6 ⊢;have O2:=hid o6;have B2:=hid (D5.out.trans b6);clear o6 b6))
    go_roundw
    case rel=>exact⟨k+1,os2,A2,c2,by go_num,by omega,rfl,hR2.out,O2.out,B2.out⟩
    case measure=>simp[intOf];omega
theorem RReadyLn_any(F:Nat→Prop)(d:Dg)(A:Option Addr)(c n:Nat)(xs:List Tx)(w:World)(hr:Row F w A xs)(hn:n<18446744073709551616)(hc:xs.length≤1000):
  Calls Tryd.prog 17 #[.agg (lnC d A xs.length c).toArray,.int .u64 (n:Int)] w fun e w'=>∃A' c',e=.returned (.tuple #[.slice A' (readyL ⟨d,xs⟩ n).length c',.int .i64 (checkL ⟨d,xs⟩)])∧OwnR 33 w' w.heap.size A' c' (readyL ⟨d,xs⟩ n)∧Below w.heap.size w w':=by
 have hul:=Tryd.underlying26
 have W0:=hid (Zad w (.cells (lnC d A xs.length c).toArray 26))
 have L0:=hid (BoxL.new w d A xs.length c 26).all
 have R0:=hid (hr.bel W0.out)
 have jl:=hid (YoL d A xs.length c)
 obtain⟨m,hm⟩:∃m,mayL ⟨d,xs⟩=m:=⟨_,rfl⟩
 have hM:=hid (fun W (h:Row F W A xs)=>hm▸RMayLn_any F d A c xs W h (by omega))
 have hRn:=hid (fun W (h:Row F W A xs) (hs:soB xs=true)=>RRunLn_any F d A c n xs W h hs hn hc)
 obtain⟨RL,hRL⟩:∃r,readyL ⟨d,xs⟩ n=r:=⟨_,rfl⟩
 obtain⟨ck,hck⟩:∃r,checkL ⟨d,xs⟩=r:=⟨_,rfl⟩
 have K0:=hid (fun h:m=false=>(⟨hRL.symm.trans (YpL (hm.trans h)).1,hck.symm.trans (YpL (n:=n) (hm.trans h)).2⟩:RL=[]∧ck=8))
 have K1:=hid (fun h:m=true=>(⟨hRL.symm.trans (YpH (hm.trans h)).1,hck.symm.trans (YpH (n:=n) (hm.trans h)).2,(Yn2 (hm.trans h)).2.1⟩:RL=runF (xs.drop (cntN xs n)) n∧ck=0∧soB xs=true))
 rw[hRL,hck]
 clear hm hRL hck hr
 generalize lnC d A xs.length c=cl at *
 go_enter Tryd.func17,Tryd.ntmps17
 go_wp2_with ((with_reducible refine lDr L0.out jl.out hul ?_))
 refine(hM.out _ R0.out).mono ?_
 rintro e w1 ⟨rfl,hB⟩
 have W1:=hid (W0.out.trans (hB.mono W0.out.size))
 have R1:=hid (R0.out.bel hB)
 have L1:=hid (Zab hB L0.out)
 clear hB
 cases m
 ·obtain⟨rfl,rfl⟩:=K0.out rfl
  go_wp2
  go_ret2
  exact⟨none,0,rfl,OwnR.nil _ _,W1.out⟩
 ·obtain⟨hRR,rfl,hso⟩:=K1.out (by first|rfl|trivial)
  replace hRn:=hid (fun W h=>hRn.out W h hso)
  rw[← hRR]at hRn
  clear K0 K1 hRR
  go_wp2_with ((with_reducible refine lDr L1.out jl.out hul ?_))
  refine(hRn.out _ R1.out).mono ?_
  rintro e w2 ⟨A2,c2,rfl,o2,hB⟩
  have O2:=hid o2
  have W2:=hid (W1.out.trans (hB.mono W1.out.size))
  clear o2 hB
  go_wp2
  go_ret2
  exact⟨A2,c2,rfl,OwnR.base O2.out W1.out.size,W2.out⟩
theorem RParted_any(F:Nat→Prop)(d:Dg)(A:Option Addr)(c n:Nat)(xs:List Tx)(w:World)(hr:Row F w A xs)(hso:soB xs=true)(hc:xs.length≤1000):
  Calls Tryd.prog 42 #[.agg (lnC d A xs.length c).toArray,.int .u64 (n:Int)] w fun e w'=>∃A1 c1 A2 c2,e=.returned (.tuple #[.slice A1 (xs.take (cntN xs n)).length c1,.slice A2 (xs.drop (cntN xs n)).length c2])∧OwnR 33 w' w.heap.size A1 c1 (xs.take (cntN xs n))∧OwnR 33 w' w.heap.size A2 c2 (xs.drop (cntN xs n))∧Below w.heap.size w w':=by
 have hux:=Tryd.underlying33
 have W0:=hid (Zad w (.cells (lnC d A xs.length c).toArray 26))
 have c0:=(BoxL.new w d A xs.length c 26).x
 have R0:=hid (hr.any.bel W0.out)
 have hI:=hid (fun i (h:i<xs.length)=>Yqs hso (n:=n) h)
 have hkl:=Ypi xs n
 clear hr hso
 generalize cntN xs n=k at *
 generalize lnC d A xs.length c=cl at *
 obtain⟨gs,hgs⟩:∃g,xs.take k=g:=⟨_,rfl⟩
 obtain⟨ys,hys⟩:∃g,xs.drop k=g:=⟨_,rfl⟩
 rw[hgs,hys]
 replace hgs:=hid hgs
 replace hys:=hid hys
 go_enter Tryd.func42,Tryd.ntmps42
 go_wp2
 generalize w.alloc (.cells cl.toArray 26)=w0 at *
 go_loopw [6,7,8] (fun a b i wr=>∃(j:Nat) (wk:World) (A1 A2:Option Addr) (c1 c2:Nat),j≤xs.length∧i=.int .i64 j∧a=.slice A1 ((xs.take j).take k).length c1∧b=.slice A2 ((xs.take j).drop k).length c2∧Below w0.heap.size w0 wk∧OwnR 33 wk w0.heap.size A1 c1 ((xs.take j).take k)∧Below wk.heap.size wk wr∧OwnR 33 wr wk.heap.size A2 c2 ((xs.take j).drop k)∧(j≤k→A2=none∧c2=0)) (fun _ _ i _=>xs.length-(intOf i).toNat)
 case atStart=>exact⟨0,w0,none,none,0,0,Nat.zero_le _,rfl,by simp,by simp,Below.refl _ _,by simpa using OwnR.nil _ _,Below.refl _ _,by simpa using OwnR.nil _ _,fun _=>⟨rfl,rfl⟩⟩
 case round=>
  obtain⟨j,wk,A1,A2,c1,c2,hj,rfl,rfl,rfl,hbk,ho1,hbr,ho2,hni⟩:=hrel
  have hb:=hbk.trans (hbr.mono hbk.size)
  have c1x:=(hb.cell (Vx5 _ _ c0)).trans c0
  by_cases hlt:j<xs.length
  ·obtain⟨b,o,hA,rj,cn,my⟩:=YpD (R0.out.bel hb) hlt
   subst hA
   have hlt2:(j:Int)<(xs.length:Int):=by omega
   have hiff:=hI.out j hlt
   have jy:=hid (Zby xs[j])
   have hvy:[Value.agg (txC xs[j]).toArray]=[xs[j]].map fun x=>Value.agg (txC x).toArray:=rfl
   have hny:Hid ([xs[j]].length=1):=hid rfl
   have hoy:Hid (∀ z∈[xs[j]],z.ok):=hid (by intro z hz;rw[Vy4]at hz;subst hz;exact my)
   have htk:=Vy5 hlt
   have hl1:=hid (show (((xs.take j).take k).length+[xs[j]].length) * (120+1)≤140737488355328 by simp only[List.length_take,List.length_cons,List.length_nil];omega)
   have hl2:=hid (show (((xs.take j).drop k).length+[xs[j]].length) * (120+1)≤140737488355328 by simp only[List.length_drop,List.length_take,List.length_cons,List.length_nil];omega)
   replace hvy:=hid hvy
   have rjh:=hid rj
   by_cases hlt3:xs[j].n<n
   ·have hjk:j<k:=hiff.1 hlt3
    obtain⟨rfl,rfl⟩:=hni (by omega)
    have hle:(xs[j].n:Int)<(n:Int):=by omega
    have e1:(xs.take j).take k++[xs[j]]=(xs.take (j+1)).take k:=by
     have a1:(xs.take j).take k=xs.take j:=List.take_of_length_le (by rw[List.length_take];omega)
     have a2:(xs.take (j+1)).take k=xs.take (j+1):=List.take_of_length_le (by rw[List.length_take];omega)
     rw[a1,a2,htk]
    have e2:(xs.take j).drop k=[]:=List.drop_eq_nil_of_le (by rw[List.length_take];omega)
    have e3:(xs.take (j+1)).drop k=[]:=List.drop_eq_nil_of_le (by rw[List.length_take];omega)
    rw[e2]at ho2 ⊢
    have O1:=hid (ho1.bel hbr)
    have hb9:=hid hb
    replace e3:=hid e3
    obtain⟨as1,has1⟩:∃q,(xs.take (j+1)).take k=q:=⟨_,rfl⟩
    rw[has1]at e1
    replace e1:=hid e1
    clear ho1 ho2 hbk hbr hb rj my e2 hiff hlt3 htk
    generalize txC xs[j]=cy at *
    obtain⟨yj,hyj⟩:∃y,xs[j]=y:=⟨_,rfl⟩
    rw[hyj]at hvy hny hoy hl1 hl2 cn hle e1
    clear hyj
    generalize (xs.take j).take k=as0 at *
    replace has1:=hid has1
    go_wp2_with (first
     |(with_reducible refine lDr rjh.out jy.out hux ?_)
     |((refine Ypc rfl 1 _ rfl [yj] [.agg cy.toArray] hvy.out hny.out (by decide) (by decide) hoy.out rfl ?_);intro g5 v5 o5 B5;have r5:=hid (YoW (G:=fun _=>False) (OwnR.row o5));have P5:=hid (O1.out.bel B5);have D5:=hid (hb9.out.trans (B5.mono hb9.out.size));clear o5 B5)
     |(at_builtin;refine ZbG slotTxQ rfl (.tmp 24) (.tmp 30) rfl w0.heap.size w0.heap.size A1 (some ⟨g5,0,none⟩) as0.length 1 c1 1 as0 [yj] (fun _=>False) rfl rfl rfl hny.out.symm P5.out r5.out (fun b hb=>hb.elim) hl1.out D5.out.size ?_;intro A3 c3 v6 o6 b6;rw[e1.out]at o6 ⊢;have O2:=hid o6;have B2:=hid (D5.out.trans b6);clear o6 b6))
    go_roundw
    case rel=>exact⟨j+1,v6,A3,none,c3,0,by omega,by go_num,by rw[has1.out],by rw[e3.out];rfl,B2.out,by rw[has1.out];exact O2.out,Below.refl _ _,by rw[e3.out];exact OwnR.nil _ _,fun _=>⟨rfl,rfl⟩⟩
    case measure=>simp[intOf];omega
   ·have hjk:¬j<k:=fun h=>hlt3 (hiff.2 h)
    have hle:¬(xs[j].n:Int)<(n:Int):=by omega
    have e1:(xs.take (j+1)).take k=(xs.take j).take k:=by
     rw[htk,List.take_append_of_le_length (by rw[List.length_take];omega)]
    have e2:(xs.take j).drop k++[xs[j]]=(xs.take (j+1)).drop k:=by
     rw[htk,List.drop_append_of_le_length (by rw[List.length_take];omega)]
    have O1:=hid ho1
    have O2:=hid ho2
    have hb9:=hid hb
    have hbk9:=hid hbk
    have hbr9:=hid hbr
    replace e1:=hid e1
    obtain⟨bs1,hbs1⟩:∃q,(xs.take (j+1)).drop k=q:=⟨_,rfl⟩
    rw[hbs1]at e2
    replace e2:=hid e2
    clear ho1 ho2 hbk hbr hb rj my hiff hlt3 htk hni
    generalize txC xs[j]=cy at *
    obtain⟨yj,hyj⟩:∃y,xs[j]=y:=⟨_,rfl⟩
    rw[hyj]at hvy hny hoy hl1 hl2 cn hle e2
    clear hyj
    generalize (xs.take j).drop k=bs0 at *
    generalize (xs.take j).take k=as0 at *
    replace hbs1:=hid hbs1
    go_wp2_with (first
     |(with_reducible refine lDr rjh.out jy.out hux ?_)
     |((refine Ypc rfl 1 _ rfl [yj] [.agg cy.toArray] hvy.out hny.out (by decide) (by decide) hoy.out rfl ?_);intro g5 v5 o5 B5;have r5:=hid (YoW (G:=fun _=>False) (OwnR.row o5));have P5:=hid (O2.out.bel B5);have D5:=hid (hbr9.out.trans (B5.mono hbr9.out.size));clear o5 B5)
     |(at_builtin;refine ZbG slotTxQ rfl (.tmp 32) (.tmp 38) rfl wk.heap.size wk.heap.size A2 (some ⟨g5,0,none⟩) bs0.length 1 c2 1 bs0 [yj] (fun _=>False) rfl rfl rfl hny.out.symm P5.out r5.out (fun b hb=>hb.elim) hl2.out D5.out.size ?_;intro A3 c3 v6 o6 b6;rw[e2.out]at o6 ⊢;have O3:=hid o6;have B3:=hid (D5.out.trans b6);clear o6 b6))
    go_roundw
    case rel=>exact⟨j+1,wk,A1,A3,c1,c3,by omega,by go_num,by rw[e1.out],by rw[hbs1.out],hbk9.out,by rw[e1.out];exact O1.out,B3.out,by rw[hbs1.out];exact O3.out,fun h=>absurd h (by omega)⟩
    case measure=>simp[intOf];omega
  ·have hje:j=xs.length:=by omega
   have hlt2:¬(j:Int)<(xs.length:Int):=by omega
   have e0:xs.take j=xs:=List.take_of_length_le (by omega)
   rw[e0,hgs.out]at ho1
   rw[e0,hys.out]at ho2
   rw[e0,hgs.out,hys.out]
   have O1:=hid (ho1.bel hbr)
   have O2:=hid ho2
   have hs:=hid hbk.size
   have Wz:=hid (W0.out.trans (hb.mono W0.out.size))
   clear ho1 ho2 hbk hbr hb hje hni
   go_wp2
   go_ret2
   exact⟨_,_,_,_,rfl,OwnR.base O1.out W0.out.size,OwnR.base O2.out (Vx1 W0.out.size hs.out),Wz.out⟩
theorem RPastLn_any(F:Nat→Prop)(d:Dg)(A:Option Addr)(c n:Nat)(xs:List Tx)(w:World)(hr:Row F w A xs)(hc:xs.length≤1000):
  Calls Tryd.prog 19 #[.agg (lnC d A xs.length c).toArray,.int .u64 (n:Int)] w (LnQ w (pastL ⟨d,xs⟩ n) (pastG ⟨d,xs⟩ n) (checkL ⟨d,xs⟩)):=by
 have hul:=Tryd.underlying26
 have hu:=Tryd.underlying23
 have e1:=Zad w (.cells (lnC d A xs.length c).toArray 26)
 have e2:=Zad (w.alloc (.cells (lnC d A xs.length c).toArray 26)) (.cells zLnC 26)
 have z0:=Vx0 w (.cells (lnC d A xs.length c).toArray 26)
 replace z0:=(e2.block _ (block_lt z0)).trans z0
 have z1:=Vx0 (w.alloc (.cells (lnC d A xs.length c).toArray 26)) (.cells zLnC 26)
 rw[Vx2]at z1
 have W0:=hid (Zag e1 e2)
 have L0:=hid (Zae z0)
 have R0:=hid (hr.bel W0.out)
 have jl0:=hid (YoL d A xs.length c)
 have jd:=hid (ZaF d)
 have jl:=hid (fun d A n c=>YoL d A n c)
 have zl:=hid (fun d A n c=>YoY d A n c)
 have ol:=hid (fun d A n c=>YoZ d A n c)
 have bl:=hid (fun A n c=>YoN d A n c)
 have hd0:=hid (fun (W:World) (h:W.rangeAt w.heap.size 0 (lnC d A xs.length c))=>(BoxL.of h).d)
 obtain⟨m,hm⟩:∃m,mayL ⟨d,xs⟩=m:=⟨_,rfl⟩
 have hM:=hid (fun W (h:Row F W A xs)=>hm▸RMayLn_any F d A c xs W h (by omega))
 have hP:=hid (fun W (h:Row F W A xs) (hs:soB xs=true)=>RParted_any F d A c n xs W h hs hc)
 replace z1:=hid z1
 clear e1 e2 z0 hr
 cases m
 ·obtain⟨p1,p2,p3⟩:=YpK (n:=n) hm
  rw[p1,p2,p3]
  clear hm p1 p2 p3 hP hd0
  generalize lnC d A xs.length c=cl at *
  go_enter Tryd.func19,Tryd.ntmps19
  go_wp2_with (first
   |(with_reducible refine Zac rfl 26 rfl zLnC YoX ?_)
   |(with_reducible refine lDr L0.out jl0.out hul ?_))
  refine(hM.out _ R0.out).mono ?_
  rintro e w3 ⟨rfl,hb3⟩
  have W3:=hid (W0.out.trans (hb3.mono W0.out.size))
  have z3:=hid ((hb3.block _ (block_lt z1.out)).trans z1.out)
  go_wp2_with (first
   |((with_reducible refine Zaf rfl 26 _ rfl zLnC [] ?_ ?_ ?_);exact YoF;rfl)
   |((with_reducible refine stW 4 12 (w.heap.size+1) 26 zLnC ?_ ?_ ?_ ?_ ?_);exact z3.out;exact jl.out zL.d none 0 0;rfl;exact ol.out zL.d none 0 0;intro we hge hbe hse))
  refine Vy0 (v:=.tuple #[.agg zLnC,.slice none 0 0,.int .i64 8]) ?_ rfl (Ypr (W3.out.grown hbe W3.out.size (fun g e=>by injection e with e;omega)))
  exact Ypa Tryd.results19 _ _ (w.heap.size+1) 26 _ (0,0) _ _ _ rfl rfl rfl hge rfl hul (jl.out zL.d none 0 0)
 ·obtain⟨p1,p2,p3⟩:=Yph (n:=n) hm
  have hso:soB xs=true:=(Yn2 hm).2.1
  rw[p1,p2,p3]
  replace hP:=hid (fun W h=>hP.out W h hso)
  unfold LnQ
  dsimp only
  clear hm p1 p2 p3 hso
  generalize xs.take (cntN xs n)=gs at *
  generalize xs.drop (cntN xs n)=ys at *
  obtain⟨cl,hcl⟩:∃l,lnC d A xs.length c=l:=⟨_,rfl⟩
  rw[hcl]at L0 W0 R0 hd0 jl0 hM hP z1 ⊢
  generalize d.1.map bv=cd at *
  go_enter Tryd.func19,Tryd.ntmps19
  go_wp2_with (first
   |(with_reducible refine Zac rfl 26 rfl zLnC YoX ?_)
   |(with_reducible refine lDr L0.out jl0.out hul ?_))
  refine(hM.out _ R0.out).mono ?_
  rintro e w3 ⟨rfl,hb3⟩
  have W3:=hid (W0.out.trans (hb3.mono W0.out.size))
  have z3:=hid ((hb3.block _ (block_lt z1.out)).trans z1.out)
  have L3:=hid (Zab hb3 L0.out)
  have R3:=hid (R0.out.bel hb3)
  clear hb3
  go_wp2_with ((with_reducible refine lDr L3.out jl0.out hul ?_))
  refine(hP.out _ R3.out).mono ?_
  rintro e w4 ⟨A1,c1,A2,c2,rfl,o1,o2,hb4⟩
  have W4:=hid (W3.out.trans (hb4.mono W3.out.size))
  have z4:=hid ((hb4.block _ (block_lt z3.out)).trans z3.out)
  have L4:=hid (Zab hb4 L3.out)
  have s3:=hid (show w.heap.size+1<w3.heap.size from block_lt z3.out)
  have O1:=hid o1
  have O2:=hid o2
  clear hb4 o1 o2
  go_wp2_with (first
   |(with_reducible refine lDr (hd0.out _ L4.out) jd.out hu ?_)
   |((with_reducible refine Zaf rfl 26 _ rfl (lnC d A2 ys.length c2).toArray [(0,.agg cd.toArray),(1,.slice A2 ys.length c2)] ?_ ?_ ?_);exact bl.out _ _ _;rfl)
   |((with_reducible refine stW 4 22 (w.heap.size+1) 26 zLnC ?_ ?_ ?_ ?_ ?_);exact z4.out;exact jl.out _ _ _ _;exact zl.out _ _ _ _;exact ol.out _ _ _ _;intro w6 hg6 hb6 hs6))
  refine Vy0 (v:=.tuple #[.agg (lnC d A2 ys.length c2).toArray,.slice A1 gs.length c1,.int .i64 0]) ?_ rfl ⟨A2,c2,A1,c1,rfl,OwnR.base (OwnQ.keptAtQ O2.out hb6 s3.out s3.out) ?_,OwnR.base (OwnQ.keptAtQ O1.out hb6 s3.out s3.out) ?_,W4.out.grown hb6 W4.out.size (fun g e=>by injection e with e;omega)⟩
  ·exact Ypa Tryd.results19 _ _ (w.heap.size+1) 26 _ (0,0) _ _ _ rfl rfl rfl hg6 rfl hul (jl.out _ _ _ _)
  ·have:=s3.out;omega
  ·have:=s3.out;omega
end Go.Proofs.YtimaoonpgilekaaDoor
