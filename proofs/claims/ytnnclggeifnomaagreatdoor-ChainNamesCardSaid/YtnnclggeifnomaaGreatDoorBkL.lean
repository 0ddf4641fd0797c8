import Derived.Test.YtnnclggeifnomaaGreatDoorPuM
import Derived.Test.YtnnclggeifnomaaGreatDoorRpL
import Derived.Test.YtnnclggeifnomaaGreatDoorHdL
import Derived.Test.YtnnclggeifnomaaGreatDoorRwL
import Derived.Test.YtnnclggeifnomaaGreatDoorBkY
import Derived.Test.YtnnclggeifnomaaGreatDoorDoor
set_option maxRecDepth 100000
set_option linter.all false
set_option maxHeartbeats 8000000
namespace Go.Proofs.YtnnclggeifnomaaGreatDoor
open Go.RowKit Go
section
variable{P:Program}{ops:Array Oper}{o:Oper}{a:Act}{w:World}{K:Act→World→Prop}{Q:Exit→Act→World→Prop}{X:Prop}
theorem Zez(hgd:o.guard=none)(ty:TypeId)(x y:Operand)(ho:o.op=.store ty x y)
  (g f:Nat) (v:Value) (cur:Array Value) (t:TypeId) (hx:a.eval x=.pointer (some ⟨g,f,none⟩)) (hy:a.eval y=v) (hv:v.cells=#[v]) (h1:v.oneCell'=true) (hg:w.heap[g]? =some (.cells cur t (0,0))) (hf:f<cur.size) (hi:(P.info? ty).map (·.size)=some 1)
  (h:∀w',w'.heap[g]? =some (.cells (cur.setIfInBounds f v) t (0,0))→Chg (fun b=>b=g) w w'→K (a.put o.dst undef) w'):if Region.wanted o (yielded ops a.tmps)=true then Oper.wp P o a w K Q else X:=by
 rw[if_pos (by simp[Region.wanted,hgd])]
 unfold Oper.wp execOp
 simp only[ho,hx,hy,Instr.storeAt,Instr.sureAddr,Sem.run_bind,Sem.run_pure,Result.andThen_ok,run_storeVar_one w g f ty v hv h1 (ZcB hg f 1 (by omega)) hi]
 exact h _ (Zb8 [v] f w cur hg) (ZdT g f [v] w)
end
def midE(J:Act→World→Prop):Exit→Act→World→Prop
 | .normal,a,w=>J a w
 |_,_,_=>False
theorem ZsN{P:Program}{c:Code}{Q:Exit→Act→World→Prop}{a:Act}{w:World}(J:Act→World→Prop)(h:c.wp P (midE J) a w)(hq:∀a w,J a w→Q .normal a w):c.wp P Q a w:=
 wp_mono h fun e a w h=>by
  cases e with
  |normal=>exact hq a w h
  |_=>exact h.elim
def StQ(gc z:Int)(P:Tr→Prop)(w:World)(e:Ending)(w':World):Prop:=∃(o:Tr) (A':Option Addr) (c':Nat),e=.returned (.tuple #[.agg #[.slice A' o.ns.length c',.int .i64 o.root],.int .i64 gc,.int .i64 z])∧OwnR 106 w' w.heap.size A' c' o.ns∧Below w.heap.size w w'∧P o
theorem Zzt(F:Nat→Prop)(A:Option Addr)(c:Nat)(ns:List Nd)(root:Int)(x:Dp)(w:World)(hx:x.ok)(hr:Row F w A ns)(hc:ns.length≤90000)(gc z:Int)(P:Tr→Prop)(h1:giveTC ⟨ns,root⟩ x=gc)(h2:giveTE ⟨ns,root⟩=z)(h3:∀o,GiveOk ⟨ns,root⟩ x o→P o):
  Calls Tryz.prog 184 #[.agg #[.slice A ns.length c,.int .i64 root],.agg (dpC x).toArray] w (StQ gc z P w):=by
 subst h1 h2
 refine(Zmn F A c ns root x w hx hr hc).mono fun e w' h=>?_
 obtain⟨o,A',c',k1,k2,k3,k4⟩:=h
 exact⟨o,A',c',k1,k2,k3,h3 o k4⟩
theorem ZlP(F:Nat→Prop)(A:Option Addr)(c:Nat)(ns:List Nd)(root:Int)(x:Tx)(box:Dg)(w:World)(hx:x.ok)(hr:Row F w A ns)(hc:ns.length≤90000)(hT:Tab w)(gc z:Int)(P:Tr→Prop)(h1:payTC ⟨ns,root⟩ x box=gc)(h2:payTE ⟨ns,root⟩ x=z)(h3:∀o,PayOk ⟨ns,root⟩ x box o→P o):
  Calls Tryz.prog 187 #[.agg #[.slice A ns.length c,.int .i64 root],.agg (txC x).toArray,.agg (box.1.map bv).toArray] w (StQ gc z P w):=by
 subst h1 h2
 refine(ZvV F A c ns root x box w hx hr hc hT).mono fun e w' h=>?_
 obtain⟨o,A',c',k1,k2,k3,k4⟩:=h
 exact⟨o,A',c',k1,k2,k3,h3 o k4⟩
theorem ZsV(F:Nat→Prop)(A:Option Addr)(c:Nat)(rs:List Rc)(w:World)(hr:Row F w A rs)(hm:∀r∈rs,mayR r=true)(hl:rs.length≤1000000):
  Calls Tryz.prog 141 #[.slice A rs.length c] w fun e w'=>∃A' c',e=.returned (.slice A' (rs.map rcB).length c')∧OwnL 41 5 w' w.heap.size A' c' (rs.map rcB)∧Below w.heap.size w w':=by
 have hur:=Tryz.underlying148
 go_enter Tryz.func141,Tryz.ntmps141
 go_wp2
 go_loopw [3,10] (fun v q wr=>∃(j:Nat) (ps:List (List UInt8)) (A':Option Addr) (c':Nat),j≤rs.length∧q=.int .i64 (j:Int)∧Hid ((rs.take j).map rcB=ps)∧Hid (ps.length=j)∧v=.slice A' ps.length c'∧OwnL 41 5 wr w.heap.size A' c' ps∧Below w.heap.size w wr) (fun _ q _=>rs.length-(intOf q).toNat)
 case atStart=>exact⟨0,[],none,0,Nat.zero_le _,rfl,rfl,rfl,rfl,OwnL.nil _ _,Below.refl _ _⟩
 case round=>
  obtain⟨j,ps,A',c',hj,rfl,hps,hpl,rfl,ho,hb⟩:=hrel
  by_cases hlt:j<rs.length
  ·obtain⟨b,o,hAe,hrng,hok⟩:=ZnG (hr.bel hb) hlt
   subst hAe
   have hmj:=hm _ (List.getElem_mem hlt)
   have hO:=fun W=>Zdp rs[j] W
   rw[show rcO rs[j]=rcB rs[j] by unfold rcO;rw[if_pos hmj],show rcE rs[j]=0 by unfold rcE;rw[if_pos hmj]]at hO
   replace hO:=hid hO
   have hnx:Hid ((rs.take (j+1)).map rcB=ps++[rcB rs[j]]):=by
    rw[Vy5 hlt,List.map_append,hps.out]
    exact rfl
   have hz:=hid (Zex rs[j])
   generalize rcB rs[j]=z at *
   generalize rs[j]=xr at *
   have Ho0:=hid ho
   have W0:=hid hb
   have R0:=hid hrng
   have j1:(j:Int)<rs.length:=by omega
   clear ho hb hr hok hm hmj hrng
   have nxr:=hid (ZdU (xr))
   have jxr:=hid (ZdM (xr))
   have axr:=hid (Zcg (xr))
   have zxr:=hid (Zdj (xr))
   generalize wr=w0 at *
   have e0:=hid (Vx0 w0 (.cells zRcC 148))
   go_wp2_with (first
    |(with_reducible refine lDr R0.out jxr.out hur ?_)
    |(with_reducible refine Zac rfl 148 rfl zRcC ZbQ ?_)
    |((with_reducible refine stW 5 13 _ 148 zRcC ?_ ?_ ?_ ?_ ?_);exact e0.out;exact axr.out;exact zxr.out;exact nxr.out;intro w1 hgS hbS hsS;have X1:=hid (Zan rfl hbS);have D1:=hid (Zae (l:=rcC xr) hgS);clear hgS hbS hsS;have Ho1:=hid (Ho0.out.bel X1.out);have R1:=hid (Zab X1.out R0.out);have W1:=hid (W0.out.trans (X1.out.mono W0.out.size));clear Ho0 R0 W0)
    |(with_reducible refine lDr D1.out jxr.out hur ?_))
   refine(hO.out _).mono ?_
   rintro e w2 ⟨A3,c3,rfl,ho3,hb⟩
   have Hq2:=hid (ho3.base W1.out.size)
   clear R1
   have Ho2:=hid (Ho1.out.bel hb)
   have W2:=hid (W1.out.trans (hb.mono W1.out.size))
   have D2:=hid (Zab hb D1.out)
   clear Ho1 W1 D1
   clear ho3 hb hO
   have h35:(35:Nat)=z.length:=hz.out.symm
   go_wp2_with ((at_builtin;refine ZdF Zie Zm7 (by decide) rfl (.tmp 19) (.tmp 21) rfl w.heap.size A' A3 _ c' c3 1 w2.heap.size ps z rfl rfl rfl (Ho2.out.alloc _) (Hq2.out.alloc _) (by rw[cell_of_row _ w2.heap.size 0 _ _ (0,0) (Vx0 w2 _)];rfl) (by have:=hpl.out;omega) (by have:=W2.out.size;simp;omega) ?_;intro A4 c4 w4 ho4 hb4;have Ho4:=hid ho4;have B4:=hid (((W2.out.alloc W2.out.size _)).trans hb4);clear ho4 hb4))
   go_roundw
   case rel=>exact⟨j+1,ps++[z],A4,c4,by omega,by go_num,hnx,by have:=hpl.out;exact hid (by simp;exact this),by simp,Ho4.out,B4.out⟩
   case measure=>simp[intOf];omega
  ·obtain rfl:j=rs.length:=by omega
   have he:rs.map rcB=ps:=by rw[← hps.out,List.take_length]
   have j2:(rs.length:Int)≤rs.length:=Int.le_refl _
   have he2:rs.length=ps.length:=by rw[← he,Vx6]
   replace he:=hid he
   have Ho:=hid ho
   have Hb:=hid hb
   clear ho hb hr hm
   go_wp2
   go_ret
   rw[he.out]
   exact⟨A',c',rfl,Ho.out,Hb.out⟩
theorem Yf7(w:World)(l m q:List Value)(t u v:TypeId):
  (((w.alloc (.cells l.toArray t)).alloc (.cells m.toArray u)).alloc (.cells q.toArray v)).rangeAt w.heap.size 0 l∧
  (((w.alloc (.cells l.toArray t)).alloc (.cells m.toArray u)).alloc (.cells q.toArray v)).rangeAt (w.heap.size+1) 0 m∧
  (((w.alloc (.cells l.toArray t)).alloc (.cells m.toArray u)).alloc (.cells q.toArray v)).heap[w.heap.size+1+1]? =some (.cells q.toArray v (0,0))∧
  Below w.heap.size w (((w.alloc (.cells l.toArray t)).alloc (.cells m.toArray u)).alloc (.cells q.toArray v)):=by
 have h1:=Zae (Vx0 w (.cells l.toArray t))
 have h2:=Zae (Vx0 (w.alloc (.cells l.toArray t)) (.cells m.toArray u))
 have h3:=Vx0 ((w.alloc (.cells l.toArray t)).alloc (.cells m.toArray u)) (.cells q.toArray v)
 simp only[Vx2]at h2 h3
 exact⟨Zab (Zad _ _) (Zab (Zad _ _) h1),Zab (Zad _ _) h2,h3,Zag (Zag (Zad _ _) (Zad _ _)) (Zad _ _)⟩
theorem Zsy{t:Tr}(h:mayT t=true):sumM t=rootD (allT t):=by
 unfold sumM
 rw[if_pos h]
 exact Subtype.ext (Zbp h).2.2.2
theorem Ziv{rs:List Rc}(h:rs.length≤256):listR (rs.map rcB)=true:=by
 unfold listR
 rw[Bool.and_eq_true,decide_eq_true_eq,Vx6,List.all_eq_true]
 refine⟨h,fun x hx=>?_⟩
 obtain⟨r,_,rfl⟩:=List.mem_map.1 hx
 rw[Zex]
 rfl
theorem ZsT(F G:Nat→Prop)(x:Hd)(A:Option Addr)(c:Nat)(ns:List Nd)(root:Int)(R:Option Addr)(rc:Nat)(rs:List Rc)(w:World)(hx:mayH x=true)(hr:Row F w A ns)(hc:ns.length≤1000000)(hmt:mayT ⟨ns,root⟩=true)
  (hR:Row G w R rs) (hm:∀r∈rs,mayR r=true) (hrl:rs.length≤256) (hT:Tab w):
  Calls Tryz.prog 91 #[.agg (hdC x).toArray,.agg #[.slice A ns.length c,.int .i64 root],.slice R rs.length rc] w fun e w'=>e=.returned (.agg (hdC (headB x (allT ⟨ns,root⟩) rs)).toArray)∧Below w.heap.size w w':=by
 have hut:=Tryz.underlying24
 have huh:=Tryz.underlying51
 have hu:=Tryz.underlying37
 obtain⟨N0,T0',z0,W0⟩:=Yf7 w (hdC x) [.slice A ns.length c,.int .i64 root] zHdC.toList 51 24 51
 have T0:=BoxT.of T0'
 have hiT:=hid (show (Tryz.prog.info? 24).map (·.size)=some ([Value.slice A ns.length c,.int .i64 root]).length from Zah)
 have jx:=hid (Zbu x)
 have hxo:x.ok:=ZkW hx
 have e0:hdE x=0:=by unfold hdE;rw[if_pos hx]
 have e1:hashH x=nameD x:=by unfold hashH;rw[if_pos hx]
 have hHs:=fun W hT=>ZfR x hxo W hT
 rw[e0,e1]at hHs
 have hSm:=fun W hW hT=>ZdP (fun b=>b<w.heap.size) A c ns root W hW (by omega) hT
 rw[Zsy hmt,if_pos hmt]at hSm
 have hRw:=hid (fun W (hW:Row G W R rs)=>ZsV G R rc rs W hW hm (by omega))
 have hRo:=fun A2 c2 W h h1 h2 hT=>Zb0 A2 c2 (rs.map rcB) W h h1 h2 (by rw[Vx6];omega) hT
 rw[if_pos (Ziv hrl),show rootRL (rs.map rcB)=rootR (rs.map rcB) by unfold rootRL;rw[if_pos (Ziv hrl)]]at hRo
 have hhx:=hx
 unfold mayH at hhx
 have hhx:=of_decide_eq_true hhx
 have hw:IntKind.i64.wrap (x.h+1)=x.h+1:=IntWalk.i64_in _ (by omega)
 obtain⟨q,hq⟩:∃q,headB x (allT ⟨ns,root⟩) rs=q:=⟨_,rfl⟩
 have hb4:=Zl2 (headB x (allT ⟨ns,root⟩) rs)
 rw[hq]at hb4 ⊢
 have hb5:Tryz.prog.built 51 [(0,.int .i64 (x.h+1)),(1,.agg ((nameD x).1.map bv).toArray),(2,.agg ((rootD (allT ⟨ns,root⟩)).1.map bv).toArray),(3,.agg ((rootR (rs.map rcB)).1.map bv).toArray),(4,.int .i64 (rs.length:Int))]=some (hdC q).toArray:=by
  rw[← hb4,←hq]
  rfl
 have R0:=hid ((hr.mono (G:=fun b=>b<w.heap.size) fun b hb h=>h).bel W0)
 have L0:=hid (hR.bel W0)
 have H0:=hid (hT.bel W0 hT.low)
 have hlow:=hid hT.low
 replace N0:=hid N0
 replace T0:=hid T0
 replace z0:=hid z0
 replace W0:=hid W0
 have qA:=hid (Zbg q)
 have qO:=hid (ZbM q)
 have qZ:=hid (Zbw q)
 generalize hnm:nameD x=nm at *
 generalize hsm:rootD (allT ⟨ns,root⟩)=sm at *
 replace hHs:=hid hHs
 replace hSm:=hid hSm
 have hiN:=hid (Zaz nm)
 have hiS:=hid (Zaz sm)
 clear hq hb4 hnm hsm hr hR hm hx hhx e0 e1 hmt hT hxo T0'
 generalize rs.map rcB=ls at *
 generalize rootR ls=rr at *
 replace hRo:=hid hRo
 replace hb5:=hid hb5
 have hiR:=hid (Zaz rr)
 generalize (hdC q).toArray=qc at *
 go_enter Tryz.func91,Tryz.ntmps91
 go_wp2_with (first
  |(with_reducible refine Zac rfl 51 rfl zHdC Za9 ?_)
  |(with_reducible refine lDr N0.out jx.out huh ?_))
 generalize ((w.alloc (.cells (hdC x).toArray 51)).alloc (.cells #[.slice A ns.length c,.int .i64 root] 24)).alloc (.cells zHdC 51)=w0 at *
 refine(hHs.out _ H0.out).mono ?_
 rintro e w1 ⟨rfl,hb⟩
 have N1:=hid (Zab hb N0.out)
 have T1:=hid (T0.out.bel hb)
 have z1:=hid ((hb.block _ (block_lt z0.out)).trans z0.out)
 have R1:=hid (R0.out.bel hb)
 have L1:=hid (L0.out.bel hb)
 have H1:=hid (H0.out.bel hb (Vx4 hlow.out W0.out.size))
 have W1:=hid (W0.out.trans (hb.mono W0.out.size))
 clear N0 T0 z0 R0 L0 H0 W0
 clear hb hHs
 have e1:=hid (Vx0 w1 (.cells z32 37))
 go_wp2_with (first
  |(with_reducible refine Zac rfl 37 rfl z32 Zam ?_)
  |((with_reducible refine stW 7 16 _ 37 z32 ?_ ?_ ?_ ?_ ?_);exact e1.out;exact ZdN nm;exact zDg nm;exact Zji nm;intro w2 hgS hbS hsS;have X2:=hid (Zan rfl hbS);have M2:=hid (Zae (l:=nm.1.map bv) hgS);clear hgS hbS hsS;have N2:=hid (Zab X2.out N1.out);have T2:=hid (T1.out.bel X2.out);have z2:=hid ((X2.out.block _ (block_lt z1.out)).trans z1.out);have R2:=hid (R1.out.bel X2.out);have L2:=hid (L1.out.bel X2.out);have H2:=hid (H1.out.bel X2.out (Vx4 hlow.out W1.out.size));have W2:=hid (W1.out.trans (X2.out.mono W1.out.size));clear N1 T1 z1 R1 L1 H1 W1)
  |(with_reducible refine lDr T2.out.all hiT.out hut ?_))
 refine(hSm.out _ R2.out H2.out).mono ?_
 rintro e w3 ⟨rfl,hb⟩
 have N3:=hid (Zab hb N2.out)
 have T3:=hid (T2.out.bel hb)
 have z3:=hid ((hb.block _ (block_lt z2.out)).trans z2.out)
 have R3:=hid (R2.out.bel hb)
 have L3:=hid (L2.out.bel hb)
 have H3:=hid (H2.out.bel hb (Vx4 hlow.out W2.out.size))
 have W3:=hid (W2.out.trans (hb.mono W2.out.size))
 have M3:=hid (Zab hb M2.out)
 clear N2 T2 z2 R2 L2 H2 W2 M2
 clear hb hSm
 have e3:=hid (Vx0 w3 (.cells z32 37))
 go_wp2_with (first
  |(with_reducible refine Zac rfl 37 rfl z32 Zam ?_)
  |((with_reducible refine stW 9 21 _ 37 z32 ?_ ?_ ?_ ?_ ?_);exact e3.out;exact ZdN sm;exact zDg sm;exact Zji sm;intro w4 hgS hbS hsS;have X4:=hid (Zan rfl hbS);have S4:=hid (Zae (l:=sm.1.map bv) hgS);clear hgS hbS hsS;have N4:=hid (Zab X4.out N3.out);have T4:=hid (T3.out.bel X4.out);have z4:=hid ((X4.out.block _ (block_lt z3.out)).trans z3.out);have R4:=hid (R3.out.bel X4.out);have L4:=hid (L3.out.bel X4.out);have H4:=hid (H3.out.bel X4.out (Vx4 hlow.out W3.out.size));have W4:=hid (W3.out.trans (X4.out.mono W3.out.size));have M4:=hid (Zab X4.out M3.out);clear N3 T3 z3 R3 L3 H3 W3 M3))
 refine(hRw.out _ L4.out).mono ?_
 rintro e w5 ⟨A5,c5,rfl,o5,hb⟩
 have N5:=hid (Zab hb N4.out)
 have T5:=hid (T4.out.bel hb)
 have z5:=hid ((hb.block _ (block_lt z4.out)).trans z4.out)
 have R5:=hid (R4.out.bel hb)
 have L5:=hid (L4.out.bel hb)
 have H5:=hid (H4.out.bel hb (Vx4 hlow.out W4.out.size))
 have W5:=hid (W4.out.trans (hb.mono W4.out.size))
 have M5:=hid (Zab hb M4.out)
 have S5:=hid (Zab hb S4.out)
 clear N4 T4 z4 R4 L4 H4 W4 M4 S4
 clear hb hRw
 have rd5:=hid (OwnL.rds o5)
 have cp5:=hid (OwnL.cap o5)
 clear o5
 go_wp2_with fail
 refine(hRo.out _ _ _ rd5.out cp5.out.1 cp5.out.2 H5.out).mono ?_
 rintro e w6 ⟨rfl,hb⟩
 have N6:=hid (Zab hb N5.out)
 have T6:=hid (T5.out.bel hb)
 have z6:=hid ((hb.block _ (block_lt z5.out)).trans z5.out)
 have R6:=hid (R5.out.bel hb)
 have L6:=hid (L5.out.bel hb)
 have H6:=hid (H5.out.bel hb (Vx4 hlow.out W5.out.size))
 have W6:=hid (W5.out.trans (hb.mono W5.out.size))
 have M6:=hid (Zab hb M5.out)
 have S6:=hid (Zab hb S5.out)
 clear N5 T5 z5 R5 L5 H5 W5 M5 S5
 clear hb hRo rd5 cp5
 have y6:=hid (BoxH.of N6.out).h
 have e6:=hid (Vx0 w6 (.cells z32 37))
 go_wp2_with (first
  |(with_reducible refine Zac rfl 37 rfl z32 Zam ?_)
  |((with_reducible refine stW 11 27 _ 37 z32 ?_ ?_ ?_ ?_ ?_);exact e6.out;exact ZdN rr;exact zDg rr;exact Zji rr;intro w7 hgS hbS hsS;have X7:=hid (Zan rfl hbS);have Q7:=hid (Zae (l:=rr.1.map bv) hgS);clear hgS hbS hsS;have N7:=hid (Zab X7.out N6.out);have T7:=hid (T6.out.bel X7.out);have z7:=hid ((X7.out.block _ (block_lt z6.out)).trans z6.out);have R7:=hid (R6.out.bel X7.out);have L7:=hid (L6.out.bel X7.out);have H7:=hid (H6.out.bel X7.out (Vx4 hlow.out W6.out.size));have W7:=hid (W6.out.trans (X7.out.mono W6.out.size));have M7:=hid (Zab X7.out M6.out);have S7:=hid (Zab X7.out S6.out);have y7:=hid ((X7.out.cell (Vx5 _ _ y6.out)).trans y6.out);clear N6 T6 z6 R6 L6 H6 W6 M6 S6 y6;have y8:=y7.out)
  |(with_reducible refine lDr M7.out hiN.out hu ?_)
  |(with_reducible refine lDr S7.out hiS.out hu ?_)
  |(with_reducible refine lDr Q7.out hiR.out hu ?_)
  |((with_reducible refine Zaf rfl 51 _ rfl qc [(0,.int .i64 (x.h+1)),(1,.agg (nm.1.map bv).toArray),(2,.agg (sm.1.map bv).toArray),(3,.agg (rr.1.map bv).toArray),(4,.int .i64 (rs.length:Int))] ?_ ?_ ?_);exact hb5.out;rfl)
  |((with_reducible refine stW 6 37 (w.heap.size+1+1) 51 zHdC ?_ ?_ ?_ ?_ ?_);exact z7.out;exact qA.out;exact qZ.out;exact qO.out;intro w8 hg8 hb8 hs8))
 refine Vy0 (v:=.agg qc) ?_ rfl ⟨rfl,W7.out.grown hb8 W7.out.size (fun k e=>by injection e with e;omega)⟩
 exact results_cell_row Tryz.results91 _ _ (w.heap.size+1+1) 51 _ (0,0) _ rfl hg8 huh rfl qA.out
def RcQ(r:Rc)(z:Int)(P:Tr→Prop)(w:World)(e:Ending)(w':World):Prop:=∃(o:Tr) (A':Option Addr) (c':Nat),e=.returned (.tuple #[.agg #[.slice A' o.ns.length c',.int .i64 o.root],.agg (rcC r).toArray,.int .i64 z])∧OwnR 106 w' w.heap.size A' c' o.ns∧Below w.heap.size w w'∧P o
theorem Zuv(w:World)(A:Option Addr)(n c:Nat)(root:Int)(l q m:List Value)(t u v y:TypeId):
  BoxT ((((w.alloc (.cells #[.slice A n c,.int .i64 root] t)).alloc (.cells l.toArray u)).alloc (.cells q.toArray v)).alloc (.cells m.toArray y)) w.heap.size A n c root∧
  ((((w.alloc (.cells #[.slice A n c,.int .i64 root] t)).alloc (.cells l.toArray u)).alloc (.cells q.toArray v)).alloc (.cells m.toArray y)).rangeAt (w.heap.size+1) 0 l∧
  ((((w.alloc (.cells #[.slice A n c,.int .i64 root] t)).alloc (.cells l.toArray u)).alloc (.cells q.toArray v)).alloc (.cells m.toArray y)).heap[w.heap.size+1+1]? =some (.cells q.toArray v (0,0))∧
  ((((w.alloc (.cells #[.slice A n c,.int .i64 root] t)).alloc (.cells l.toArray u)).alloc (.cells q.toArray v)).alloc (.cells m.toArray y)).heap[w.heap.size+1+1+1]? =some (.cells m.toArray y (0,0))∧
  Below w.heap.size w ((((w.alloc (.cells #[.slice A n c,.int .i64 root] t)).alloc (.cells l.toArray u)).alloc (.cells q.toArray v)).alloc (.cells m.toArray y))∧
  ((((w.alloc (.cells #[.slice A n c,.int .i64 root] t)).alloc (.cells l.toArray u)).alloc (.cells q.toArray v)).alloc (.cells m.toArray y)).heap.size=w.heap.size+1+1+1+1:=by
 have h1:=BoxT.new w A n c root t
 have h2:=Zae (Vx0 (w.alloc (.cells #[.slice A n c,.int .i64 root] t)) (.cells l.toArray u))
 have h3:=Vx0 ((w.alloc (.cells #[.slice A n c,.int .i64 root] t)).alloc (.cells l.toArray u)) (.cells q.toArray v)
 have h4:=Vx0 (((w.alloc (.cells #[.slice A n c,.int .i64 root] t)).alloc (.cells l.toArray u)).alloc (.cells q.toArray v)) (.cells m.toArray y)
 have h5:=(Zad (((w.alloc (.cells #[.slice A n c,.int .i64 root] t)).alloc (.cells l.toArray u)).alloc (.cells q.toArray v)) (.cells m.toArray y)).block _ (block_lt h3)
 simp only[Vx2]at h2 h3 h4 h5
 exact⟨((h1.bel (Zad _ _)).bel (Zad _ _)).bel (Zad _ _),Zab (Zad _ _) (Zab (Zad _ _) h2),h5.trans h3,h4,Zag (Zag (Zag (Zad _ _) (Zad _ _)) (Zad _ _)) (Zad _ _),by simp only[Vx2]⟩
theorem YaT{fn:Func}{p q u:Tmp}(h:fn.results=#[.cell p 24,.cell q 148,.tmp u])(tmps:Array Value)(w:World)(g k:Nat)(A:Option Addr)(n c:Nat)(root:Int)(r:Rc)(e1:tmps.getD p undef=.pointer (some ⟨g,0,none⟩))(e2:tmps.getD q undef=.pointer (some ⟨k,0,none⟩))
  (hg:w.heap[g]? =some (.cells #[.slice A n c,.int .i64 root] 24 (0,0))) (hk:w.heap[k]? =some (.cells (rcC r).toArray 148 (0,0))):(results fn tmps).run Tryz.prog w=.ok (.tuple #[.agg #[.slice A n c,.int .i64 root],.agg (rcC r).toArray,tmps.getD u undef]) w:=by
 have h2:=run_loadVar_mid (P:=Tryz.prog) w g 0 24 [.slice A n c,.int .i64 root] _ (Zae (l:=[Value.slice A n c,.int .i64 root]) hg) Tryz.underlying24 rfl Zah
 have h3:=run_loadVar_mid (P:=Tryz.prog) w k 0 148 (rcC r) _ (Zae (l:=rcC r) hk) Tryz.underlying148 rfl (ZdM r)
 have e3:tmps[p]?.getD undef=.pointer (some ⟨g,0,none⟩):=by simpa using e1
 have e4:tmps[q]?.getD undef=.pointer (some ⟨k,0,none⟩):=by simpa using e2
 simp only[results,h]
 simp[Sem.run_bind,Result.andThen,e3,e4,asAddr,Sem.run_pure,h2,h3]
theorem Zqw(box:Dg)(w:World):Calls Tryz.prog 138 #[.agg (box.1.map bv).toArray] w fun e w'=>e=.returned (.func (.func 186) #[] #[.pointer (some ⟨w.heap.size,0,none⟩)])∧w'.heap[w.heap.size]? =some (.cells (box.1.map bv).toArray 37 (0,0))∧w'.heap.size=w.heap.size+1∧Below w.heap.size w w':=by
 have h:=hid (Vx0 w (.cells (box.1.map bv).toArray 37))
 go_enter Tryz.func138,Tryz.ntmps138
 go_wp2
 go_ret
 exact⟨rfl,h.out,by rw[Vx2],Zad _ _⟩
theorem ZsS(F:Nat→Prop)(A:Option Addr)(c:Nat)(ns:List Nd)(root:Int)(x:Dp)(w:World)(hx:x.ok)(hma:mayA ⟨ns,root⟩=true)(hr:Row F w A ns)(hc:ns.length≤90000)(hT:Tab w):
  Calls Tryz.prog 136 #[.agg #[.slice A ns.length c,.int .i64 root],.agg (dpC x).toArray] w (RcQ ⟨1,idD x,giveTC ⟨ns,root⟩ x⟩ 0 (GiveOk ⟨ns,root⟩ x) w):=by
 unfold RcQ
 have hut:=Tryz.underlying24
 have hud:=Tryz.underlying142
 have hur:=Tryz.underlying148
 have hu:=Tryz.underlying37
 obtain⟨T0,P0,z0,y0,W0,s0⟩:=Zuv w A ns.length c root (dpC x) zTrC.toList zRcC.toList 24 142 24 148
 have hiT:=hid (show (Tryz.prog.info? 24).map (·.size)=some ([Value.slice A ns.length c,.int .i64 root]).length from Zah)
 have R0:=hid ((hr.mono (G:=fun b=>b<w.heap.size) fun b hb h=>h).bel W0)
 have H0:=hid (hT.bel W0 hT.low)
 have hlow:=hid hT.low
 replace T0:=hid T0
 replace P0:=hid P0
 replace z0:=hid (show _=some (Obj.cells zTrC 24 (0,0)) from z0)
 replace y0:=hid (show _=some (Obj.cells zRcC 148 (0,0)) from y0)
 replace W0:=hid W0
 replace s0:=hid s0
 have jx:=hid (Zia x)
 have hz:giveTE ⟨ns,root⟩=0:=by rw[Zej (by dsimp only;omega),if_pos hma]
 have hPy:=hid (fun W hW=>Zzt (fun b=>b<w.heap.size) A c ns root x W hx hW hc (giveTC ⟨ns,root⟩ x) 0 (GiveOk ⟨ns,root⟩ x) rfl hz (fun o ho=>ho))
 have hId:=hid (fun W hT=>ZeV x hx W hT)
 obtain⟨r,hrr⟩:∃r:Rc,⟨1,idD x,giveTC ⟨ns,root⟩ x⟩=r:=⟨_,rfl⟩
 have hbr:=hid (show Tryz.prog.built 148 [(0,bv 1),(1,.agg ((idD x).1.map bv).toArray),(2,.int .i64 (giveTC ⟨ns,root⟩ x))]=some (rcC r).toArray from hrr▸ZjG ⟨1,idD x,giveTC ⟨ns,root⟩ x⟩)
 rw[hrr]
 clear hrr hr hT hz hma
 generalize giveTC ⟨ns,root⟩ x=gc at *
 generalize idD x=id9 at *
 have nr:=hid (ZdU r)
 have ar:=hid (Zcg r)
 have zr:=hid (Zdj r)
 generalize hcx:dpC x=cx at *
 replace hcx:=hid hcx
 go_enter Tryz.func136,Tryz.ntmps136
 go_wp2_with (first
  |(with_reducible refine Zac rfl 24 rfl zTrC Zas ?_)
  |(with_reducible refine Zac rfl 148 rfl zRcC ZbQ ?_)
  |(with_reducible refine lDr T0.out.all hiT.out hut ?_)
  |(with_reducible refine lDr P0.out jx.out hud ?_))
 generalize (((w.alloc (.cells #[.slice A ns.length c,.int .i64 root] 24)).alloc (.cells cx.toArray 142)).alloc (.cells zTrC 24)).alloc (.cells zRcC 148)=w0 at *
 refine(hPy.out _ R0.out).mono ?_
 rintro e w1 ⟨⟨na,ra⟩,ad,cd,rfl,ho,hb,hok⟩
 dsimp only at ho hok ⊢
 have T1:=hid (T0.out.bel hb)
 have P1:=hid (Zab hb P0.out)
 have z1:=hid ((hb.block _ (block_lt z0.out)).trans z0.out)
 have y1:=hid ((hb.block _ (block_lt y0.out)).trans y0.out)
 have R1:=hid (R0.out.bel hb)
 have H1:=hid (H0.out.bel hb (Vx4 hlow.out W0.out.size))
 have W1:=hid (W0.out.trans (hb.mono W0.out.size))
 clear T0 P0 z0 y0 R0 H0 W0
 have O1:=hid ho
 replace hok:=hid hok
 have W1s:=hid (show w.heap.size+1+1+1<w1.heap.size from block_lt y1.out)
 clear hb ho hPy
 have e1:=hid (Vx0 w1 (.cells zTrC 24))
 have hiE:=hid (show (Tryz.prog.info? 24).map (·.size)=some ([Value.slice ad na.length cd,.int .i64 ra]).length from Zah)
 go_wp2_with (first
  |(with_reducible refine Zac rfl 24 rfl zTrC Zas ?_)
  |((with_reducible refine stW 7 14 _ 24 zTrC ?_ ?_ ?_ ?_ ?_);exact e1.out;exact Zah;rfl;exact Zat ad na.length cd ra;intro w2 hgS hbS hsS;have X2:=hid (Zan rfl hbS);have lt2:=hid (block_lt hgS);have E2:=hid (BoxT.of (Zae (l:=[Value.slice ad na.length cd,.int .i64 ra]) hgS));clear hgS hbS hsS;have T2:=hid (T1.out.bel X2.out);have P2:=hid (Zab X2.out P1.out);have z2:=hid ((X2.out.block _ (block_lt z1.out)).trans z1.out);have y2:=hid ((X2.out.block _ (block_lt y1.out)).trans y1.out);have R2:=hid (R1.out.bel X2.out);have H2:=hid (H1.out.bel X2.out (Vx4 hlow.out W1.out.size));have W2:=hid (W1.out.trans (X2.out.mono W1.out.size));have O2:=hid (O1.out.bel X2.out);clear T1 P1 z1 y1 R1 H1 W1 O1))
 have s2:=hid (show w.heap.size+1+1+1<w0.heap.size by rw[s0.out];omega)
 refine wp_region_noPanic ?_
 refine wp_region_held_drew (S:=fun W=>Chg (fun b=>b=w.heap.size+1+1∨b=w.heap.size+1+1+1) w2 W) (by kernel_rfl) ?_ (fun hHeld=>?_)
 ·exact Chg.of_bel (Zao w2)
 refine' tkM 0 rfl (fun _ h=>Zak E2.out.all (fun hb=>h.block _ hb (by have:=W1s.out;omega))) hut hiE.out ?_
 refine' tkM 1 rfl (fun _ h=>Zak P2.out (fun hb=>h.block _ hb (by omega))) hud jx.out ?_
 refine' tkW 3 5 ?_
 simp only[sQ]
 refine rdH 2 rfl fun K hK=>?_
 go_simp
 refine(hId.out _ (H2.out.bel (hHeld.below (B:=w.heap.size) W2.out.size (fun b hb e=>by omega)) hlow.out)).mono ?_
 rintro e v1 ⟨rfl,hB⟩
 have z3:=hid ((hB.block _ (block_lt (show w2.drew.heap[w.heap.size+1+1]? =_ from z2.out))).trans z2.out)
 have y3:=hid ((hB.block _ (block_lt (show w2.drew.heap[w.heap.size+1+1+1]? =_ from y2.out))).trans y2.out)
 have O3:=hid ((O2.out.bel (Zao w2)).bel hB)
 go_wp2_with fail
 refine hK.out _ _ (hHeld.trans (Chg.of_bel hB)) fun hHeld=>?_
 clear hK K
 try simp only[sQ]
 refine' tkH 4 rfl (Yb1 (by rfl) _ _ rfl _ _ (hbr.out) rfl) ?_
 simp only[sQ]
 refine rdH 6 rfl fun K hK=>?_
 refine Zaj rfl 24 (.tmp 4) (.tmp 17) rfl (w.heap.size+1+1) _ rfl rfl 24 zTrC z3.out Zah rfl (Zat _ _ _ _) ?_
 intro v2 d2 hG
 have z4:=hid d2
 have y4:=hid ((hG.block _ (block_lt y3.out) (by simp)).trans y3.out)
 have O4:=hid (OwnQ.keptAtP O3.out hG (by have:=s2.out;omega) (by have:=s2.out;omega))
 refine hK.out _ _ (hHeld.trans ((Chg.of_grown hG).mono (fun b _ e=>.inl (by injection e)))) fun hHeld=>?_
 clear hK K
 try simp only[sQ]
 refine rdH 7 rfl fun K hK=>?_
 refine Zaj rfl 148 (.tmp 5) (.tmp 21) rfl (w.heap.size+1+1+1) _ rfl rfl 148 zRcC y4.out ar.out zr.out nr.out ?_
 intro v3 d3 hG
 have y5:=hid d3
 have z5:=hid ((hG.block _ (block_lt z4.out) (by simp)).trans z4.out)
 have O5:=hid (OwnQ.keptAtP O4.out hG (by have:=s2.out;omega) (by have:=s2.out;omega))
 refine hK.out _ _ (hHeld.trans ((Chg.of_grown hG).mono (fun b _ e=>.inr (by injection e)))) fun hHeld=>?_
 clear hK K
 try simp only[sQ]
 refine' tkP 8 rfl ?_
 simp only[sQ]
 refine dnN ?_
 go_wp2
 exact Vy0 (YaT Tryz.results136 _ _ (w.heap.size+1+1) (w.heap.size+1+1+1) ad na.length cd ra r rfl rfl z5.out y5.out) rfl ⟨⟨na,ra⟩,ad,cd,rfl,OwnR.base O5.out (by have:=s2.out;omega),W2.out.trans (hHeld.below W2.out.size (fun b hb=>by omega)),hok.out⟩
theorem ZsU(F:Nat→Prop)(A:Option Addr)(c:Nat)(ns:List Nd)(root:Int)(x:Tx)(box:Dg)(bb:Nat)(w:World)(hx:x.ok)(hbb:w.rangeAt bb 0 (box.1.map bv))(hbs:bb<w.heap.size)(hr:Row F w A ns)(hc:ns.length≤90000)(hT:Tab w):
  Calls Tryz.prog 186 #[.agg #[.slice A ns.length c,.int .i64 root],.agg (txC x).toArray,.pointer (some ⟨bb,0,none⟩)] w (RcQ ⟨2,idX x,payTC ⟨ns,root⟩ x box⟩ (payTE ⟨ns,root⟩ x) (PayOk ⟨ns,root⟩ x box) w):=by
 unfold RcQ
 have hut:=Tryz.underlying24
 have hux:=Tryz.underlying145
 have hur:=Tryz.underlying148
 have hu:=Tryz.underlying37
 obtain⟨T0,P0,z0,y0,W0,s0⟩:=Zuv w A ns.length c root (txC x) zTrC.toList zRcC.toList 24 145 24 148
 have hiT:=hid (show (Tryz.prog.info? 24).map (·.size)=some ([Value.slice A ns.length c,.int .i64 root]).length from Zah)
 have R0:=hid ((hr.mono (G:=fun b=>b<w.heap.size) fun b hb h=>h).bel W0)
 have H0:=hid (hT.bel W0 hT.low)
 have hlow:=hid hT.low
 replace T0:=hid T0
 replace P0:=hid P0
 replace z0:=hid (show _=some (Obj.cells zTrC 24 (0,0)) from z0)
 replace y0:=hid (show _=some (Obj.cells zRcC 148 (0,0)) from y0)
 replace W0:=hid W0
 replace s0:=hid s0
 have jx:=hid (Zby x)
 have D0:=hid (Zab W0.out hbb)
 have hiD:=hid (Zaz box)
 have hPy:=hid (fun W hW hT=>ZlP (fun b=>b<w.heap.size) A c ns root x box W hx hW hc hT (payTC ⟨ns,root⟩ x box) (payTE ⟨ns,root⟩ x) (PayOk ⟨ns,root⟩ x box) rfl rfl (fun o ho=>ho))
 have hId:=hid (fun W hT=>Zmv x hx W hT)
 obtain⟨r,hrr⟩:∃r:Rc,⟨2,idX x,payTC ⟨ns,root⟩ x box⟩=r:=⟨_,rfl⟩
 have hbr:=hid (show Tryz.prog.built 148 [(0,bv 2),(1,.agg ((idX x).1.map bv).toArray),(2,.int .i64 (payTC ⟨ns,root⟩ x box))]=some (rcC r).toArray from hrr▸ZjG ⟨2,idX x,payTC ⟨ns,root⟩ x box⟩)
 rw[hrr]
 clear hrr hbb hr hT
 generalize payTC ⟨ns,root⟩ x box=gc at *
 generalize payTE ⟨ns,root⟩ x=pz at *
 generalize idX x=id9 at *
 have nr:=hid (ZdU r)
 have ar:=hid (Zcg r)
 have zr:=hid (Zdj r)
 generalize hcx:txC x=cx at *
 replace hcx:=hid hcx
 go_enter Tryz.func186,Tryz.ntmps186
 go_wp2_with (first
  |(with_reducible refine Zac rfl 24 rfl zTrC Zas ?_)
  |(with_reducible refine Zac rfl 148 rfl zRcC ZbQ ?_)
  |(with_reducible refine lDr T0.out.all hiT.out hut ?_)
  |(with_reducible refine lDr P0.out jx.out hux ?_)
  |(with_reducible refine lDr D0.out hiD.out hu ?_))
 generalize (((w.alloc (.cells #[.slice A ns.length c,.int .i64 root] 24)).alloc (.cells cx.toArray 145)).alloc (.cells zTrC 24)).alloc (.cells zRcC 148)=w0 at *
 refine(hPy.out _ R0.out H0.out).mono ?_
 rintro e w1 ⟨⟨na,ra⟩,ad,cd,rfl,ho,hb,hok⟩
 dsimp only at ho hok ⊢
 have T1:=hid (T0.out.bel hb)
 have P1:=hid (Zab hb P0.out)
 have z1:=hid ((hb.block _ (block_lt z0.out)).trans z0.out)
 have y1:=hid ((hb.block _ (block_lt y0.out)).trans y0.out)
 have R1:=hid (R0.out.bel hb)
 have H1:=hid (H0.out.bel hb (Vx4 hlow.out W0.out.size))
 have W1:=hid (W0.out.trans (hb.mono W0.out.size))
 have D1:=hid (Zab hb D0.out)
 clear T0 P0 z0 y0 R0 H0 W0 D0
 have O1:=hid ho
 replace hok:=hid hok
 have W1s:=hid (show w.heap.size+1+1+1<w1.heap.size from block_lt y1.out)
 clear hb ho hPy
 have e1:=hid (Vx0 w1 (.cells zTrC 24))
 have hiE:=hid (show (Tryz.prog.info? 24).map (·.size)=some ([Value.slice ad na.length cd,.int .i64 ra]).length from Zah)
 go_wp2_with (first
  |(with_reducible refine Zac rfl 24 rfl zTrC Zas ?_)
  |((with_reducible refine stW 8 16 _ 24 zTrC ?_ ?_ ?_ ?_ ?_);exact e1.out;exact Zah;rfl;exact Zat ad na.length cd ra;intro w2 hgS hbS hsS;have X2:=hid (Zan rfl hbS);have lt2:=hid (block_lt hgS);have E2:=hid (BoxT.of (Zae (l:=[Value.slice ad na.length cd,.int .i64 ra]) hgS));clear hgS hbS hsS;have T2:=hid (T1.out.bel X2.out);have P2:=hid (Zab X2.out P1.out);have z2:=hid ((X2.out.block _ (block_lt z1.out)).trans z1.out);have y2:=hid ((X2.out.block _ (block_lt y1.out)).trans y1.out);have R2:=hid (R1.out.bel X2.out);have H2:=hid (H1.out.bel X2.out (Vx4 hlow.out W1.out.size));have W2:=hid (W1.out.trans (X2.out.mono W1.out.size));have D2:=hid (Zab X2.out D1.out);have O2:=hid (O1.out.bel X2.out);clear T1 P1 z1 y1 R1 H1 W1 D1 O1))
 have s2:=hid (show w.heap.size+1+1+1<w0.heap.size by rw[s0.out];omega)
 refine wp_region_noPanic ?_
 refine wp_region_held_drew (S:=fun W=>Chg (fun b=>b=w.heap.size+1+1∨b=w.heap.size+1+1+1) w2 W) (by kernel_rfl) ?_ (fun hHeld=>?_)
 ·exact Chg.of_bel (Zao w2)
 refine' tkM 0 rfl (fun _ h=>Zak E2.out.all (fun hb=>h.block _ hb (by have:=W1s.out;omega))) hut hiE.out ?_
 refine' tkM 1 rfl (fun _ h=>Zak P2.out (fun hb=>h.block _ hb (by omega))) hux jx.out ?_
 refine' tkW 3 5 ?_
 simp only[sQ]
 refine rdH 2 rfl fun K hK=>?_
 go_simp
 refine(hId.out _ (H2.out.bel (hHeld.below (B:=w.heap.size) W2.out.size (fun b hb e=>by omega)) hlow.out)).mono ?_
 rintro e v1 ⟨rfl,hB⟩
 have z3:=hid ((hB.block _ (block_lt (show w2.drew.heap[w.heap.size+1+1]? =_ from z2.out))).trans z2.out)
 have y3:=hid ((hB.block _ (block_lt (show w2.drew.heap[w.heap.size+1+1+1]? =_ from y2.out))).trans y2.out)
 have O3:=hid ((O2.out.bel (Zao w2)).bel hB)
 go_wp2_with fail
 refine hK.out _ _ (hHeld.trans (Chg.of_bel hB)) fun hHeld=>?_
 clear hK K
 try simp only[sQ]
 refine' tkH 4 rfl (Yb1 (by rfl) _ _ rfl _ _ (hbr.out) rfl) ?_
 simp only[sQ]
 refine rdH 6 rfl fun K hK=>?_
 refine Zaj rfl 24 (.tmp 5) (.tmp 19) rfl (w.heap.size+1+1) _ rfl rfl 24 zTrC z3.out Zah rfl (Zat _ _ _ _) ?_
 intro v2 d2 hG
 have z4:=hid d2
 have y4:=hid ((hG.block _ (block_lt y3.out) (by simp)).trans y3.out)
 have O4:=hid (OwnQ.keptAtP O3.out hG (by have:=s2.out;omega) (by have:=s2.out;omega))
 refine hK.out _ _ (hHeld.trans ((Chg.of_grown hG).mono (fun b _ e=>.inl (by injection e)))) fun hHeld=>?_
 clear hK K
 try simp only[sQ]
 refine rdH 7 rfl fun K hK=>?_
 refine Zaj rfl 148 (.tmp 6) (.tmp 23) rfl (w.heap.size+1+1+1) _ rfl rfl 148 zRcC y4.out ar.out zr.out nr.out ?_
 intro v3 d3 hG
 have y5:=hid d3
 have z5:=hid ((hG.block _ (block_lt z4.out) (by simp)).trans z4.out)
 have O5:=hid (OwnQ.keptAtP O4.out hG (by have:=s2.out;omega) (by have:=s2.out;omega))
 refine hK.out _ _ (hHeld.trans ((Chg.of_grown hG).mono (fun b _ e=>.inr (by injection e)))) fun hHeld=>?_
 clear hK K
 try simp only[sQ]
 refine' tkP 8 rfl ?_
 simp only[sQ]
 refine dnN ?_
 go_wp2
 exact Vy0 (YaT Tryz.results186 _ _ (w.heap.size+1+1) (w.heap.size+1+1+1) ad na.length cd ra r rfl rfl z5.out y5.out) rfl ⟨⟨na,ra⟩,ad,cd,rfl,OwnR.base O5.out (by have:=s2.out;omega),W2.out.trans (hHeld.below W2.out.size (fun b hb=>by omega)),hok.out⟩
section
variable{P:Program}
theorem Zst{α:Type}[Enc α]{S E:TypeId}{z:Value}{bytes:Nat}(hS:Slot P α S E z bytes){w:World}{ops:Array Oper}{o:Oper}{a:Act}{K:Act→World→Prop}{Q:Exit→Act→World→Prop}{X:Prop}(hg:Region.wanted o (yielded ops a.tmps)=true)(s x:Operand)
  (hop:o.op=.call { callee:=.builtin .append,args:=#[s,x],argTypes:=#[S,S] })
  (B0 B:Nat) (A A2:Option Addr) (n m c c2:Nat) (xs ys:List α) (F2:Nat→Prop) (hs:a.eval s=.slice A n c) (hx:a.eval x=.slice A2 m c2) (hn:n=xs.length) (hm:m=ys.length)
  (ho:OwnQ E w B0 B A c xs) (hr:Src F2 w A2 ys) (hF:∀b,F2 b→B0≤b∧Soft w b∧∀a,A=some a→b≠a.block) (hlen:(xs.length+ys.length) * (bytes+1)≤140737488355328) (hB:B≤w.heap.size)
  (hK:∀A' c' w',OwnQ E w' B0 B A' c' (xs++ys)→Below B w w'→w.grownBy w' (A.map (·.block))→(A'=A∨A'=some ⟨w.heap.size,0,none⟩)→K (a.put o.dst (.slice A' (xs++ys).length c')) w'):if Region.wanted o (yielded ops a.tmps)=true then Oper.wp P o a w K Q else X:=by
 rw[if_pos hg]
 subst hn hm
 obtain⟨F,h1,h2⟩:=ho
 have h3:RowO E (fun b=>F b∨F2 b) w B A c xs:=h1.mono (fun b hb _=>.inl hb) fun a ha hf=>by
  rcases hf with hf|hf
  ·exact h1.apart a ha hf
  ·exact(hF _ hf).2.2 a ha rfl
 have hr2:Src (fun b=>F b∨F2 b) w A2 ys:=fun hn=>by
  obtain⟨b,o,hA,hc⟩:=hr hn
  exact⟨b,o,hA,hc.mono fun b hb _=>.inr hb⟩
 have hs2:∀b,F b∨F2 b→B0≤b∧Soft w b:=by
  rintro b (hb|hb)
  ·exact h2 b hb
  ·exact⟨(hF b hb).1,(hF b hb).2.1⟩
 obtain⟨A',c',w',hrun,ho',hb,hg,hA⟩:=ZiE hS o.type h3 c2 hr2 (fun b hb=>(hs2 b hb).2.lt) hlen hB
 unfold Oper.wp execOp
 simp only[hop,resolve,invoke,builtin,Sem.run_bind,Sem.run_pure,Result.andThen_ok,List.map_toArray,List.map_cons,List.map_nil,hs,hx,hrun]
 refine hK _ _ w' ⟨_,ho',fun b hb=>⟨(hs2 b hb).1,(hs2 b hb).2.kept (hg.block b (hs2 b hb).2.lt fun e=>?_)⟩⟩ hb hg hA
 rcases A with _|a
 ·cases e
 ·simp only[Option.map_some,Option.some.injEq]at e
  subst e
  exact h3.apart a rfl hb
end
section
variable{α:Type}[Enc α]{E:TypeId}{w w':World}{M T B0 B:Nat}{A:Option Addr}{c:Nat}{xs:List α}{G:Nat→Prop}
theorem OwnQ.chg(h:OwnQ E w B0 B A c xs)(hc:Chg G w w')(h0:∀b,B0≤b→¬G b)(h1:∀b,B≤b→¬G b):OwnQ E w' B0 B A c xs:=by
 have hb:=h.blk
 obtain⟨F,k1,k2⟩:=h
 exact⟨F,k1.kept (fun a ha hl=>hc.block _ hl (h1 _ (hb a ha).1)) (fun b hf hl=>hc.block b hl (h0 b (k2 b hf).1)),fun b hf=>⟨(k2 b hf).1,(k2 b hf).2.kept (hc.block b (k2 b hf).2.lt (h0 b (k2 b hf).1))⟩⟩
theorem OwnM.chg(h:OwnM E w M T A c xs)(hc:Chg G w w')(hG:∀b,M≤b→b<T→¬G b):OwnM E w' M T A c xs:=by
 have hb:=h.own.blk
 obtain⟨F,h1,h2,h3⟩:=h
 exact⟨F,h1.kept (fun a ha hl=>hc.block _ hl (hG _ (hb a ha).1 (h3 a ha))) (fun b hf hl=>hc.block b hl (hG b (h2 b hf).1 (h2 b hf).2.1)),fun b hf=>⟨(h2 b hf).1,(h2 b hf).2.1,(h2 b hf).2.2.kept (hc.block b (h2 b hf).2.2.lt (hG b (h2 b hf).1 (h2 b hf).2.1))⟩,h3⟩
end
def Jf(jb n1:Nat)(w:World)(b:Nat):Prop:=b=jb∨(n1≤b∧∃cs,w.heap[b]? =some (.cells cs 148 (0,0)))
def JChg(jb n1:Nat)(w w':World):Prop:=Chg (Jf jb n1 w) w w'
section
variable{jb n1 B:Nat}{w w' w'':World}
theorem JChg.trans(h:JChg jb n1 w w')(k:JChg jb n1 w' w''):JChg jb n1 w w'':=by
 refine⟨k.os.trans h.os,k.tape.trans h.tape,k.output.trans h.output,Vx1 h.size k.size,fun b hb hn=>?_⟩
 have e:=h.block b hb hn
 exact(k.block b (Vx4 hb h.size) fun hf=>hn (by
  rcases hf with hf|⟨h1,cs,h2⟩
  ·exact .inl hf
  ·exact .inr ⟨h1,cs,by rw[← e];exact h2⟩)).trans e
theorem JChg.of(h:Below w.heap.size w w'):JChg jb n1 w w':=Chg.of_bel h
theorem JChg.low(h:JChg jb n1 w w')(hj:jb<n1)(hn:n1≤w.heap.size):Below jb w w':=⟨h.os,h.tape,h.output,h.size,fun b hb=>h.block b (by omega) fun hf=>by rcases hf with hf|⟨h1,-⟩<;>omega⟩
theorem JChg.kept(h:JChg jb n1 w w'){b:Nat}{cs:Array Value}{T:TypeId}(hb:w.heap[b]? =some (.cells cs T (0,0)))(hT:T≠148)(hj:b≠jb):w'.heap[b]? =some (.cells cs T (0,0)):=
 (h.block b (block_lt hb) fun hf=>by
  rcases hf with hf|⟨-,cs2,h2⟩
  ·exact hj hf
  ·rw[hb]at h2
   injection h2 with h2
   injection h2 with _ h3 _
   exact hT h3).trans hb
theorem JChg.keptB(h:JChg jb n1 w w'){b:Nat}(hl:b<w.heap.size)(hb:b<n1)(hj:b≠jb):w'.heap[b]? =w.heap[b]? :=
 h.block b hl fun hf=>by rcases hf with hf|⟨h1,-⟩<;>omega
end
theorem Yhi{F:Nat→Prop}{w:World}{B:Nat}{A:Option Addr}{c:Nat}{rs:List Rc}(h:RowO 148 F w B A c rs):RowO 148 (fun _=>False) w B A c rs:=by
 obtain⟨css,h1,h2,h3,h4⟩:=h
 refine⟨css,h1,h2,fun j x vs hx hv=>?_,fun a ha hf=>hf⟩
 obtain⟨rfl,hok⟩:=Zr6 (h3 j x vs hx hv)
 exact Zh6 x hok
def AtJ(jb n1:Nat)(O:Nat→Prop)(w:World)(A:Option Addr)(c:Nat)(ns:List Nd)(rs:List Rc):Prop:=
 ∃M T R rc,n1≤M∧jb<n1∧n1≤w.heap.size∧T≤w.heap.size∧(∀ g,O g→g<w.heap.size∧(g<M∨T≤g))∧Zone R M T∧OwnM 106 w M T A c ns∧RowO 148 (fun _=>False) w n1 R rc rs∧w.heap[jb]? =some (.cells #[.slice R rs.length rc] 182 (0,0))
section
variable{jb n1:Nat}{O O':Nat→Prop}{w w':World}{A A2:Option Addr}{c c2:Nat}{ns ms:List Nd}{rs:List Rc}
theorem AtJ.more(h:AtJ jb n1 O w A c ns rs)(hb:Below w.heap.size w w')(hO:∀g,O' g→O g∨(w.heap.size≤g∧g<w'.heap.size)):AtJ jb n1 O' w' A c ns rs:=by
 obtain⟨M,T,R,rc,h1,h3,h4,h5,ho,h6,h7,h8,h9⟩:=h
 refine⟨M,T,R,rc,h1,h3,Vx1 h4 hb.size,Vx1 h5 hb.size,fun g hg=>?_,h6,h7.bel hb,h8.bel hb,(hb.block _ (block_lt h9)).trans h9⟩
 have hs:=hb.size
 rcases hO g hg with hg|hg
 ·exact⟨Vx4 (ho g hg).1 hs,(ho g hg).2⟩
 ·exact⟨hg.2,.inr (Vx1 h5 hg.1)⟩
theorem AtJ.bel(h:AtJ jb n1 O w A c ns rs)(hb:Below w.heap.size w w'):AtJ jb n1 O w' A c ns rs:=h.more hb fun _ hg=>.inl hg
theorem AtJ.fresh(h:AtJ jb n1 O w A c ns rs)(hb:Below w.heap.size w w')(ho:OwnR 106 w' w.heap.size A2 c2 ms):AtJ jb n1 O w' A2 c2 ms rs:=by
 obtain⟨M,T,R,rc,h1,h3,h4,h5,hO,h6,h7,h8,h9⟩:=h
 have hs:=hb.size
 exact⟨w.heap.size,w'.heap.size,R,rc,h4,h3,Vx1 h4 hs,Vx8 _,fun g hg=>⟨Vx4 (hO g hg).1 hs,.inl (hO g hg).1⟩,fun a ha=>.inl (h8.blk a ha).2,OwnM.of ho,h8.bel hb,(hb.block _ (block_lt h9)).trans h9⟩
theorem AtJ.store(h:AtJ jb n1 O w A c ns rs){g:Nat}{cs:Array Value}{T0:TypeId}(hc:w.grownBy w' (some g))(hg:w.heap[g]? =some (.cells cs T0 (0,0)))(hT:T0≠148)(hj:g≠jb)(hB:O g):AtJ jb n1 O w' A c ns rs:=by
 obtain⟨M,T,R,rc,h1,h3,h4,h5,hO,h6,h7,h8,h9⟩:=h
 have hs:=hc.size
 have hgo:=(hO g hB).2
 refine⟨M,T,R,rc,h1,h3,Vx1 h4 hs,Vx1 h5 hs,fun g hg=>⟨Vx4 (hO g hg).1 hs,(hO g hg).2⟩,h6,h7.chg (Chg.of_grown hc) (fun b hb hb2 e=>by injection e with e;omega),h8.kept (fun a ha hl=>hc.block _ hl fun e=>?_) (fun b hf=>hf.elim),(hc.block _ (block_lt h9) (fun e=>by injection e with e;omega)).trans h9⟩
 injection e with e
 obtain⟨cur,-,k2⟩:=h8.form a ha
 rw[e,hg]at k2
 injection k2 with k2
 injection k2 with _ k3 _
 exact hT k3
theorem AtJ.row(h:AtJ jb n1 O w A c ns rs):∃F,Row F w A ns:=by
 obtain⟨M,T,R,rc,h1,h3,h4,h5,hO,h6,h7,h8,h9⟩:=h
 exact⟨_,OwnR.row h7.own⟩
theorem AtJ.own(h:AtJ jb n1 O w A c ns rs):OwnR 106 w n1 A c ns:=by
 obtain⟨M,T,R,rc,h1,h3,h4,h5,hO,h6,h7,h8,h9⟩:=h
 exact OwnR.base h7.own h1
theorem AtJ.size(h:AtJ jb n1 O w A c ns rs):jb<n1∧n1≤w.heap.size:=by
 obtain⟨M,T,R,rc,h1,h3,h4,h5,hO,h6,h7,h8,h9⟩:=h
 exact⟨h3,h4⟩
theorem AtJ.recs(h:AtJ jb n1 O w A c ns rs):∃R rc,OwnR 148 w n1 R rc rs∧w.heap[jb]? =some (.cells #[.slice R rs.length rc] 182 (0,0)):=by
 obtain⟨M,T,R,rc,h1,h3,h4,h5,hO,h6,h7,h8,h9⟩:=h
 exact⟨R,rc,⟨_,h8,fun b hf=>hf.elim⟩,h9⟩
end
theorem ZcP:(24:TypeId)≠148:=by decide
theorem YhE:(37:TypeId)≠148:=by decide
theorem YeB:(Tryz.prog.info? 75).map (·.size)=some 1:=by kernel_rfl
theorem Zqd{w:World}{ops:Array Oper}{o:Oper}{a:Act}{K:Act→World→Prop}{Q:Exit→Act→World→Prop}{X:Prop}(hg:o.guard=none)(x:Operand)(hop:o.op=.buildSlice 75 1 #[(0,x)])(r:Rc)(hx:a.eval x=.agg (rcC r).toArray)(hr:r.ok)
  (hK:∀g w',w.heap.size=g→Src (fun _=>False) w' (some ⟨g,0,none⟩) [r]→Below w.heap.size w w'→K (a.put o.dst (.slice (some ⟨g,0,none⟩) 1 1)) w'):if Region.wanted o (yielded ops a.tmps)=true then Oper.wp Tryz.prog o a w K Q else X:=
 ZbE Zkg (by decide) hg x hop (rcC r) (by rw[hx];rfl) (ZhW _) (hK _ _ rfl (ZaE (Zh6 r hr)) (Zad _ _))
theorem Zn3(jb n1:Nat)(O:Nat→Prop)(A:Option Addr)(c:Nat)(ns:List Nd)(rs:List Rc)(r:Rc)(w:World)(h:AtJ jb n1 O w A c ns rs)(hr:r.ok)(hl:rs.length≤1000):
  Calls Tryz.prog 134 #[.pointer (some ⟨jb,0,none⟩),.agg (rcC r).toArray] w fun e w'=>e=.returned (.tuple #[])∧AtJ jb n1 O w' A c ns (rs++[r])∧JChg jb n1 w w':=by
 have hur:=Tryz.underlying148
 obtain⟨M,T,R,rc,h1,h3,h4,h5,hO,h6,h7,h8,h9⟩:=h
 have W0:=Zad w (.cells (rcC r).toArray 148)
 have D0:=hid (Zae (Vx0 w (.cells (rcC r).toArray 148)))
 have s0:(w.alloc (.cells (rcC r).toArray 148)).heap.size=w.heap.size+1:=Vx2 _ _
 have z0:=(W0.block _ (block_lt h9)).trans h9
 have c0:=(Zae (l:=[Value.slice R rs.length rc]) z0) 0 _ rfl
 have Q0:=h8.bel W0
 have jr:=hid (ZdM r)
 have hRb:=h8.blk
 have hRt:=h8.form
 have hjl:=block_lt h9
 have hRz:some jb≠R.map (·.block):=fun e=>by
  rcases R with _|a
  ·cases e
  ·simp only[Option.map_some,Option.some.injEq]at e
   have:=(hRb a rfl).1
   omega
 have hRl:=fun b (e:some b=R.map (·.block))=>(show n1≤b∧b<w.heap.size∧(b<M∨T≤b)∧∃cs,w.heap[b]? =some (.cells cs 148 (0,0)) from by
  rcases R with _|a
  ·cases e
  ·simp only[Option.map_some,Option.some.injEq]at e
   subst e
   obtain⟨cur,-,k⟩:=hRt a rfl
   exact⟨(hRb a rfl).1,(hRb a rfl).2,h6 a rfl,cur,k⟩)
 generalize hw0:w.alloc (.cells (rcC r).toArray 148)=w0 at *
 go_enter Tryz.func134,Tryz.ntmps134
 go_wp2_with fail
 try rw[hw0]
 replace hw0:=hid hw0
 replace W0:=hid W0
 replace z0:=hid (show w0.drew.heap[jb]? =_ from z0)
 replace c0:=hid (show w0.drew.cell? ⟨jb,0,none⟩=_ from c0)
 replace Q0:=hid (show OwnR 148 w0.drew n1 R rc rs from ⟨_,Q0.bel (Zao w0),fun b hf=>hf.elim⟩)
 replace h7:=hid h7
 replace h8:=hid h8
 replace hRl:=hid hRl
 replace hRz:=hid hRz
 replace h6:=hid h6
 replace hO:=hid hO
 replace s0:=hid s0
 clear hRb hRt
 focus
  refine wp_region_noPanic ?_
  refine wp_region_held_drew (S:=fun W=>Chg (fun b=>b=jb∨some b=R.map (·.block)) w0 W) (by kernel_rfl) ?_ (fun hHeld=>?_)
  ·exact Chg.of_bel (Zao w0)
  refine' tkW 0 1 ?_
  refine' tkW 2 3 ?_
  simp only[sQ]
  refine' tkM 5 rfl (fun _ h=>Zak D0.out (fun hb=>h.block _ hb (fun e=>e.elim (fun e=>by omega) (fun e=>by have:=(hRl.out _ e).2.1;omega)))) hur jr.out ?_
  simp only[sQ]
  refine Ynx 4 6 rfl rfl (fun K hK=>?_) (fun K hK=>?_)
  focus
   have hCell:=(show _=some (Value.slice R rs.length rc) from by first|exact(hB6.cell (Vx5 _ _ c0.out)).trans c0.out|exact c0.out)
   go_simp
   refine hK.out _ _ (hHeld) fun hHeld=>?_
   clear hK K
   try simp only[sQ]
   refine rdH 6 rfl fun K hK=>?_
   refine Zqd rfl (.tmp 9) rfl r rfl hr ?_
   intro g6 v6 e6 q6 hB6
   have z6:=hid ((hB6.block _ (block_lt z0.out)).trans z0.out)
   have Q6:=hid (OwnQ.bel Q0.out hB6)
   refine hK.out _ _ (hHeld.trans (Chg.of_bel hB6)) fun hHeld=>?_
   clear hK K
   try simp only[sQ]
  rotate_left
  focus
   refine Zqd rfl (.tmp 9) rfl r rfl hr ?_
   intro g6 v6 e6 q6 hB6
   have z6:=hid ((hB6.block _ (block_lt z0.out)).trans z0.out)
   have Q6:=hid (OwnQ.bel Q0.out hB6)
   refine hK.out _ _ (hHeld.trans (Chg.of_bel hB6)) fun hHeld=>?_
   clear hK K
   try simp only[sQ]
   refine rdH 4 rfl fun K hK=>?_
   have hCell:=(show _=some (Value.slice R rs.length rc) from by first|exact(hB6.cell (Vx5 _ _ c0.out)).trans c0.out|exact c0.out)
   go_simp
   refine hK.out _ _ (hHeld) fun hHeld=>?_
   clear hK K
   try simp only[sQ]
  all_goals
   refine rdH 7 rfl fun K hK=>?_
   refine Zst Zkg rfl (.tmp 8) (.tmp 10) rfl n1 n1 R _ rs.length 1 rc 1 rs [r] (fun _=>False) rfl rfl rfl rfl Q6.out q6 (fun b hb=>hb.elim) (by simp only[List.length_singleton];omega) (Vx1 h4 (Vx1 W0.out.size hHeld.size)) ?_
   intro R7 rc7 v7 ho7 hB7 hg7 hA7
   have z7:=hid ((hg7.block _ (block_lt z6.out) hRz.out).trans z6.out)
   have m7:=hid (Vx1 W0.out.size hHeld.size)
   replace hA7:=hid hA7
   refine hK.out _ _ (hHeld.trans ((Chg.of_grown hg7).mono (fun b _ e=>.inr e))) fun hHeld=>?_
   clear hK K
   try simp only[sQ]
   refine' tkW 8 9 ?_
   simp only[sQ]
   refine rdH 10 rfl fun K hK=>?_
   refine Zez rfl 75 (.tmp 13) (.tmp 11) rfl jb 0 (.slice R7 (rs++[r]).length rc7) _ 182 rfl rfl rfl rfl z7.out Nat.zero_lt_one YeB ?_
   intro v10 hS10 hC10
   have z10:=hid (show v10.heap[jb]? =some (.cells #[.slice R7 (rs++[r]).length rc7] 182 (0,0)) from hS10)
   refine hK.out _ _ (hHeld.trans (hC10.mono (fun b _ e=>.inl e))) fun hHeld=>?_
   clear hK K
   try simp only[sQ]
   refine dnN ?_
   have hH:=hid hHeld
   have oF:=hid (OwnQ.chg ho7 hC10 (fun b hb e=>by omega) (fun b hb e=>by omega))
   clear hHeld hS10 hC10 ho7 hB7 hg7
   go_wp2
   go_end0
   have hc:=(Chg.of_bel (F:=fun b=>b=jb∨some b=R.map (·.block)) W0.out).trans hH.out
   have hs:=hc.size
   refine⟨rfl,⟨M,T,R7,rc7,h1,h3,by omega,by omega,fun g hg=>⟨Vx4 (hO.out g hg).1 hs,(hO.out g hg).2⟩,fun a ha=>?_,h7.out.chg hc (fun b hb hb2 e=>?_),Yhi oF.out.choose_spec.1,z10.out⟩,hc.mono (fun b hb e=>?_)⟩
   ·rcases hA7.out with rfl|e
    ·exact h6.out a ha
    ·rw[e]at ha;injection ha with ha;subst ha;exact .inr (Vx1 h5 m7.out)
   ·rcases e with e|e
    ·omega
    ·have:=(hRl.out b e).2.2.1;omega
   ·rcases e with e|e
    ·exact .inl e
    ·exact .inr ⟨(hRl.out b e).1,(hRl.out b e).2.2.2⟩
theorem Tab.up{w w':World}(h:Tab w)(hb:Below w.heap.size w w'):Tab w':=h.bel hb h.low
section
variable{jb n1:Nat}{w w' w'':World}
theorem JChg.bel(h:JChg jb n1 w w')(hb:Below w'.heap.size w' w''):JChg jb n1 w w'':=JChg.trans h (JChg.of hb)
theorem JChg.store(h:JChg jb n1 w w'){g:Nat}(hc:w'.grownBy w'' (some g))(hg:w.heap.size≤g):JChg jb n1 w w'':=
 ⟨hc.os.trans h.os,hc.tape.trans h.tape,hc.output.trans h.output,Vx1 h.size hc.size,fun b hb hn=>(hc.block b (Vx4 hb h.size) (fun e=>by injection e with e;omega)).trans (h.block b hb hn)⟩
end
theorem Zyq(w:World)(A:Option Addr)(n c:Nat)(root:Int):
  ((w.alloc (.cells #[.slice A n c,.int .i64 root] 24)).alloc (.cells zTrC 24)).heap[w.heap.size]? =some (.cells #[.slice A n c,.int .i64 root] 24 (0,0))∧
  ((w.alloc (.cells #[.slice A n c,.int .i64 root] 24)).alloc (.cells zTrC 24)).heap[w.heap.size+1]? =some (.cells zTrC 24 (0,0))∧
  Below w.heap.size w ((w.alloc (.cells #[.slice A n c,.int .i64 root] 24)).alloc (.cells zTrC 24))∧
  ((w.alloc (.cells #[.slice A n c,.int .i64 root] 24)).alloc (.cells zTrC 24)).heap.size=w.heap.size+1+1:=by
 have h1:=Vx0 w (.cells #[.slice A n c,.int .i64 root] 24)
 have h2:=Vx0 (w.alloc (.cells #[.slice A n c,.int .i64 root] 24)) (.cells zTrC 24)
 have h3:=(Zad (w.alloc (.cells #[.slice A n c,.int .i64 root] 24)) (.cells zTrC 24)).block _ (block_lt h1)
 rw[Vx2]at h2
 exact⟨h3.trans h1,h2,Zag (Zad _ _) (Zad _ _),by simp only[Vx2]⟩
def EachOk(jb n1:Nat)(O:Nat→Prop)(t:Tr)(L:List Pr)(rs:List Rc)(k:Nat)(z:Int)(w:World)(e:Ending)(w':World):Prop:=∃(o:Tr) (A':Option Addr) (c':Nat),
 e=.returned (.tuple #[.agg #[.slice A' o.ns.length c',.int .i64 o.root],.int .i64 z])∧JChg jb n1 w w'∧(z=0→AtJ jb n1 O w' A' c' o.ns rs∧mayA o=true∧allT o=L∧o.ns.length≤t.ns.length+k∧∃r,o.ns=t.ns++r)∧(¬ z=0→o=⟨[],0⟩)
theorem YdV{t:Tr}{x:Tx}{box:Dg}(h:payTE t x=0):payTC t x box=paidC (allT t) x box:=by unfold payTC;rw[if_pos h]
theorem Zzq{t:Tr}{d:Dp}(h:mayA t=true)(hl:t.ns.length≤100000):giveTE t=0∧giveTC t d=giveC (allT t) d.t d.a:=by
 have hz:giveTE t=0:=by rw[Zej hl,if_pos h]
 exact⟨hz,by unfold giveTC;rw[if_pos hz]⟩
theorem Yg9(box:Dg)(xs:List Tx)(ps:List Pr){j:Nat}(hj:j<xs.length)(h:payE box ps (xs.take j)=0){T:Tr}(hm:mayA T=true)(hl:T.ns.length≤100000)(hT:allT T=payAll box ps (xs.take j)):
  (¬ payTE T xs[j]=0→payE box ps xs=payTE T xs[j])∧(payTE T xs[j]=0→payE box ps (xs.take (j+1))=0∧payAll box ps (xs.take (j+1))=paidL (allT T) xs[j] box∧payRs box ps (xs.take (j+1))=payRs box ps (xs.take j)++[⟨2,idX xs[j],payTC T xs[j] box⟩]):=by
 have e:payTE T xs[j]=if decide (xs[j].s=signD xs[j])=true then (if nextB (allT T) xs[j]=true then 0 else 2) else 110:=by
  unfold payTE
  rw[if_pos hm,Vy1 (by omega:¬260944<T.ns.length)]
  rfl
 have s:=ZrV box xs ps hj h
 rw[← hT]at s
 refine⟨fun h0=>?_,fun h0=>?_⟩
 ·rw[e]at h0 ⊢
  rw[s]
  by_cases h1:decide (xs[j].s=signD xs[j])=true
  ·rw[if_pos h1]at h0 ⊢
   by_cases h2:nextB (allT T) xs[j]=true
   ·rw[if_pos h2]at h0
    exact absurd rfl h0
   ·rw[if_neg h2]
    rw[if_pos h1,if_neg h2]
  ·rw[if_neg h1]
   rw[if_neg h1]
 ·obtain⟨h1,h2,h3⟩:=Zel h0
  rw[hT]at h3
  have k:=Zu6 box xs ps hj h (Vy2 h2) h3
  rw[YdV h0,hT]
  exact k
theorem YdW(t:Tr)(x:Tx)(box:Dg):I64 (payTC t x box):=by
 unfold payTC
 split
 ·exact Zu4 _ _ _
 ·exact⟨by decide,by decide⟩
theorem Zqu(jb n1:Nat)(O:Nat→Prop)(A:Option Addr)(c:Nat)(ns:List Nd)(root:Int)(F:Nat→Prop)(D:Option Addr)(d:Nat)(ds:List Dp)(rs:List Rc)(w:World)(h:AtJ jb n1 O w A c ns rs)(hm:mayA ⟨ns,root⟩=true)(hl:ns.length+1200 * ds.length≤89000)(hD:Row F w D ds)(hF:∀b,F b→b<jb)(hrs:rs.length+ds.length≤1000)(hT:Tab w)(hTj:0<jb):
  Calls Tryz.prog 135 #[.agg #[.slice A ns.length c,.int .i64 root],.slice D ds.length d,.func (.func 136) #[] #[],.func (.func 134) #[.pointer (some ⟨jb,0,none⟩)] #[]] w (EachOk jb n1 O ⟨ns,root⟩ (giveAll (allT ⟨ns,root⟩) ds) (rs++giveRs (allT ⟨ns,root⟩) ds) (1200 * ds.length) 0 w):=by
 have hut:=Tryz.underlying24
 have hud:=Tryz.underlying142
 have hur:=Tryz.underlying148
 obtain⟨p0,q0,W0,s0⟩:=Zyq w A ns.length c root
 obtain⟨hj1,hj2⟩:=h.size
 have a0:=h.more W0 (O':=fun g=>O g∨g=w.heap.size∨g=w.heap.size+1) (fun g hg=>by
  rcases hg with hg|rfl|rfl
  ·exact .inl hg
  ·exact .inr ⟨Vx8 _,by rw[s0];omega⟩
  ·exact .inr ⟨by omega,by rw[s0];omega⟩)
 have j0:JChg jb n1 w _:=JChg.of W0
 unfold EachOk
 replace p0:=hid p0
 replace q0:=hid q0
 replace a0:=hid a0
 replace j0:=hid j0
 replace hT:=hid hT
 replace hD:=hid hD
 clear h
 go_enter Tryz.func135,Tryz.ntmps135
 go_wp2_with (with_reducible refine Zac rfl 24 rfl zTrC Zas ?_)
 generalize (w.alloc (.cells #[.slice A ns.length c,.int .i64 root] 24)).alloc (.cells zTrC 24)=w0 at *
 go_loopw [17] (fun i wr=>∃(j:Nat) (T:Tr) (A':Option Addr) (c':Nat),j≤ds.length∧i=.int .i64 j∧wr.heap[w.heap.size]? =some (.cells #[.slice A' T.ns.length c',.int .i64 T.root] 24 (0,0))∧wr.heap[w.heap.size+1]? =some (.cells zTrC 24 (0,0))∧Hid (AtJ jb n1 (fun g=>O g∨g=w.heap.size∨g=w.heap.size+1) wr A' c' T.ns (rs++giveRs (allT ⟨ns,root⟩) (ds.take j)))∧mayA T=true∧Hid (allT T=giveAll (allT ⟨ns,root⟩) (ds.take j))∧T.ns.length≤ns.length+1200 * j∧(∃ r,T.ns=ns++r)∧Hid (JChg jb n1 w wr)) (fun i _=>ds.length-(intOf i).toNat)
 case atStart=>exact⟨0,⟨ns,root⟩,A,c,Nat.zero_le _,rfl,p0.out,q0.out,hid (by have:=a0.out;simpa only[List.take_zero,giveRs,List.append_nil] using this),hm,hid rfl,by simp,⟨[],by simp⟩,j0⟩
 case round=>
  obtain⟨j,T,A',c',hj,rfl,hp,hq,hAt,hmT,hal,hlT,hgr,hJ⟩:=hrel
  have hlow1:Below jb w wr:=hJ.out.low hj1 hj2
  by_cases hlt:j<ds.length
  ·obtain⟨b,o,hDe,hrng,hxo⟩:=Zsb (hD.out.kept (fun b hb hl=>hlow1.block b (hF b hb)) hlow1.size) hlt
   subst hDe
   have hlT2:T.ns.length≤90000:=by omega
   obtain⟨hz0,hc0⟩:=Zzq (d:=ds[j]) hmT (by omega)
   have hCy:=fun (F:Nat→Prop) W hW hT=>ZsS F A' c' T.ns T.root ds[j] W hxo hmT hW hlT2 hT
   have hok9:=fun o (ho:GiveOk T ds[j] o)=>ZjS hz0 ho
   have hro:(⟨1,idD ds[j],giveTC T ds[j]⟩:Rc).ok:=by rw[hc0];exact ZuL _ _ _
   have hyes:giveAll (allT ⟨ns,root⟩) (ds.take (j+1))=giveL (allT T) ds[j].t ds[j].a∧giveRs (allT ⟨ns,root⟩) (ds.take (j+1))=giveRs (allT ⟨ns,root⟩) (ds.take j)++[⟨1,idD ds[j],giveTC T ds[j]⟩]:=by
    rw[Vy5 hlt,Zjh,ZkO,hc0,hal.out]
    exact⟨rfl,rfl⟩
   obtain⟨r,hr⟩:∃r:Rc,⟨1,idD ds[j],giveTC T ds[j]⟩=r:=⟨_,rfl⟩
   rw[hr]at hro hyes
   unfold RcQ at hCy
   rw[show (⟨T.ns,T.root⟩:Tr)=T from rfl,hr]at hCy
   obtain⟨Fr,hrow⟩:=hAt.out.row
   have r1:=hid hrow
   have hx1:=hid hrng
   have p1:=hid hp
   have q1:=hid hq
   have a1:=hid hAt.out
   have J1:=hid hJ.out
   have H1:=hid (hT.out.bel hlow1 hTj)
   have n1r:=hid (ZdU r)
   have arc:=hid (Zcg r)
   have zrc:=hid (Zdj r)
   have jrc:=hid (ZdM r)
   have jx:=hid (Zia ds[j])
   have nx:=hid (Yad ds[j])
   have ax:=hid (Ybj ds[j])
   have zx:=hid (YbY ds[j])
   have hlen:(rs++giveRs (allT ⟨ns,root⟩) (ds.take j)).length≤1000:=by
    rw[Vx3,Zde,List.length_take]
    omega
   have hiT:=hid (show (Tryz.prog.info? 24).map (·.size)=some ([Value.slice A' T.ns.length c',.int .i64 T.root]).length from Zah)
   have j1:(j:Int)<ds.length:=by omega
   replace hCy:=hid hCy
   replace hyes:=hid hyes
   replace hok9:=hid hok9
   replace hlen:=hid hlen
   replace hro:=hid hro
   clear hr hrng hp hq hAt hJ hrow hlow1 hc0
   generalize giveRs (allT ⟨ns,root⟩) (ds.take j)=rj at *
   generalize dpC ds[j]=cx at *
   generalize wr=w1 at *
   have e1:=hid (Vx0 w1 (.cells zDpC 142))
   go_wp2_with (first
    |(with_reducible refine lDr hx1.out jx.out hud ?_)
    |(with_reducible refine Zac rfl 142 rfl zDpC YbV ?_)
    |((with_reducible refine stW 11 20 _ 142 zDpC ?_ ?_ ?_ ?_ ?_);exact e1.out;exact ax.out;exact zx.out;exact nx.out;intro w2 hgS hbS hsS;have X2:=hid (Zan rfl hbS);have D2:=hid (Zae (l:=cx) hgS);clear hgS hbS hsS;have p2:=hid ((X2.out.block _ (block_lt p1.out)).trans p1.out);have q2:=hid ((X2.out.block _ (block_lt q1.out)).trans q1.out);have a2:=hid (a1.out.bel X2.out);have J2:=hid (J1.out.bel X2.out);have H2:=hid (Tab.up H1.out X2.out);have r2:=hid (r1.out.bel X2.out);clear p1 q1 a1 J1 H1 r1;have t2:=hid (Zae (l:=[Value.slice A' T.ns.length c',.int .i64 T.root]) p2.out))
    |(with_reducible refine lDr t2.out hiT.out hut ?_)
    |(with_reducible refine lDr D2.out jx.out hud ?_))
   refine(hCy.out _ _ r2.out H2.out).mono ?_
   rintro e w3 ⟨⟨na,ra⟩,ad,cd,rfl,ho,hb,hok⟩
   dsimp only at ho hok ⊢
   have a3:=hid (a2.out.fresh hb ho)
   clear a2 r2
   have p3:=hid ((hb.block _ (block_lt p2.out)).trans p2.out)
   have q3:=hid ((hb.block _ (block_lt q2.out)).trans q2.out)
   have J3:=hid (J2.out.bel hb)
   have H3:=hid (Tab.up H2.out hb)
   clear p2 q2 J2 H2
   replace hok:=hid hok
   have W3s:=hid (show jb<w3.heap.size from Vx4 hj1 a3.out.size.2)
   clear hb ho hCy t2 D2 X2
   have ea:=hid (((Zad (w3.alloc (.cells zTrC 24)) (.cells zRcC 148)).block _ (by rw[Vx2];exact Nat.lt_succ_self _)).trans (Vx0 w3 (.cells zTrC 24)))
   have eb:=Vx0 (w3.alloc (.cells zTrC 24)) (.cells zRcC 148)
   rw[Vx2]at eb
   replace eb:=hid eb
   have hW3:=hid (Zag (Zad w3 (.cells zTrC 24)) (Zad (w3.alloc (.cells zTrC 24)) (.cells zRcC 148)))
   have hiE:=hid (show (Tryz.prog.info? 24).map (·.size)=some ([Value.slice ad na.length cd,.int .i64 ra]).length from Zah)
   go_wp2_with (first
    |(with_reducible refine Zac rfl 24 rfl zTrC Zas ?_)
    |(with_reducible refine Zac rfl 148 rfl zRcC ZbQ ?_)
    |((with_reducible refine stW 12 26 _ 24 zTrC ?_ ?_ ?_ ?_ ?_);exact ea.out;exact Zah;rfl;exact Zat ad na.length cd ra;intro w4a g1 b1 s1;refine wpList_store_row rfl 148 (.tmp 13) (.tmp 27) rfl (w3.heap.size+1) _ ?_ rfl 148 zRcC ?_ ?_ ?_ ?_ ?_;(first|rfl|(simp only[Vx2];rfl));exact(b1.block _ (block_lt eb.out) (by simp)).trans eb.out;exact arc.out;exact zrc.out;exact n1r.out;intro w4 g2 b2 s2;have X4a:=hW3.out.grown b1 hW3.out.size (fun k e=>by injection e with e;omega);have X4:=hid (X4a.grown b2 X4a.size (fun k e=>by injection e with e;omega));have E4:=hid ((b2.block _ (block_lt g1) (by simp)).trans g1);have D4:=hid (Zae (l:=rcC r) g2);clear g1 b1 s1 g2 b2 s2 X4a ea eb hW3;have p4:=hid ((X4.out.block _ (block_lt p3.out)).trans p3.out);have q4:=hid ((X4.out.block _ (block_lt q3.out)).trans q3.out);have J4:=hid (J3.out.bel X4.out);have H4:=hid (Tab.up H3.out X4.out);have a4:=hid (a3.out.bel X4.out);clear p3 q3 J3 H3 a3)
    |(with_reducible refine lDr D4.out jrc.out hur ?_))
   obtain⟨hy1,hy2,hy3,hy4⟩:=hok9.out ⟨na,ra⟩ hok.out
   dsimp only at hy3 hy4
   obtain⟨hz2,hz3⟩:=hyes.out
   refine(Zn3 jb n1 _ ad cd na (rs++rj) r w4 a4.out hro.out hlen.out).mono ?_
   rintro e w5 ⟨rfl,a5',hJ5⟩
   have a5:=hid a5'
   have p5:=hid (hJ5.kept p4.out ZcP (by have:=hj2;omega))
   have q5:=hid (hJ5.kept q4.out ZcP (by have:=hj2;omega))
   have E5:=hid (hJ5.kept E4.out ZcP (by have:=W3s.out;omega))
   have J5:=hid (J4.out.trans hJ5)
   have t5:=hid (Zae (l:=[Value.slice ad na.length cd,.int .i64 ra]) E5.out)
   clear a5' hJ5 a4 p4 q4 E4 D4 J4 H4
   go_wp2_with (first
    |(with_reducible refine lDr t5.out hiE.out hut ?_)
    |((with_reducible refine wpList_store_row rfl 24 (.tmp 4) (.tmp 36) rfl w.heap.size _ rfl rfl 24 #[Value.slice A' T.ns.length c',.int .i64 T.root] ?_ ?_ ?_ ?_ ?_);exact p5.out;exact Zah;rfl;exact Zat ad na.length cd ra;intro w6 hg6 hb6 hs6;have p6:=hid hg6;have q6:=hid ((hb6.block _ (block_lt q5.out) (fun e=>by injection e with e;omega)).trans q5.out);have a6:=hid (a5.out.store hb6 p5.out ZcP (by omega) (.inr (.inl rfl)));have J6:=hid (J5.out.store hb6 (Vx8 _));clear hg6 hb6 hs6))
   go_roundw
   case rel=>exact⟨j+1,⟨na,ra⟩,ad,cd,by omega,by go_num,p6.out,q6.out,hid (by rw[hz3,←List.append_assoc];exact a6.out),hy1,hid (by rw[hz2];exact hy2),by dsimp only;omega,by obtain⟨r1,e1⟩:=hgr;obtain⟨r2,e2⟩:=hy4;exact⟨r1++r2,by rw[← List.append_assoc,←e1];exact e2⟩,J6⟩
   case measure=>simp[intOf];omega
  ·obtain rfl:j=ds.length:=by omega
   have hal2:=hal.out
   rw[List.take_length]at hal2 hAt
   have hiT:=hid (show (Tryz.prog.info? 24).map (·.size)=some ([Value.slice A' T.ns.length c',.int .i64 T.root]).length from Zah)
   have t0:=hid (Zae (l:=[Value.slice A' T.ns.length c',.int .i64 T.root]) hp)
   have q0':=hid hq
   have j2:(ds.length:Int)≤ds.length:=Int.le_refl _
   replace hal2:=hid hal2
   clear hal hp hq hlow1
   go_wp2_with (first
    |(with_reducible refine lDr t0.out hiT.out hut ?_)
    |((with_reducible refine stW 8 38 (w.heap.size+1) 24 zTrC ?_ ?_ ?_ ?_ ?_);exact q0'.out;exact Zah;rfl;exact Zat A' T.ns.length c' T.root;intro w7 hg7 hb7 hs7))
   exact Vy0 (Zce Tryz.results135 _ _ (w.heap.size+1) A' T.ns.length c' T.root rfl hg7) rfl ⟨T,A',c',rfl,hJ.out.store hb7 (by omega),fun _=>⟨(hAt.out.store hb7 q0'.out ZcP (by omega) (.inr (.inr rfl))).more (Below.refl _ _) (fun g hg=>.inl (.inl hg)),hmT,hal2.out,hlT,hgr⟩,fun h=>absurd (by trivial) h⟩
theorem Zqv(jb n1:Nat)(O:Nat→Prop)(A:Option Addr)(c:Nat)(ns:List Nd)(root:Int)(F:Nat→Prop)(D:Option Addr)(d:Nat)(xs:List Tx)(box:Dg)(bb:Nat)(rs:List Rc)(w:World)(h:AtJ jb n1 O w A c ns rs)(hm:mayA ⟨ns,root⟩=true)(hl:ns.length+1200 * xs.length≤89000)(hD:Row F w D xs)(hF:∀b,F b→b<jb)(hrs:rs.length+xs.length≤1000)(hT:Tab w)(hTj:0<jb)(hbb:w.heap[bb]? =some (.cells (box.1.map bv).toArray 37 (0,0)))(hbj:bb≠jb):
  Calls Tryz.prog 137 #[.agg #[.slice A ns.length c,.int .i64 root],.slice D xs.length d,.func (.func 186) #[] #[.pointer (some ⟨bb,0,none⟩)],.func (.func 134) #[.pointer (some ⟨jb,0,none⟩)] #[]] w (EachOk jb n1 O ⟨ns,root⟩ (payAll box (allT ⟨ns,root⟩) xs) (rs++payRs box (allT ⟨ns,root⟩) xs) (1200 * xs.length) (payE box (allT ⟨ns,root⟩) xs) w):=by
 have hut:=Tryz.underlying24
 have hux:=Tryz.underlying145
 have hur:=Tryz.underlying148
 obtain⟨p0,q0,W0,s0⟩:=Zyq w A ns.length c root
 obtain⟨hj1,hj2⟩:=h.size
 have a0:=h.more W0 (O':=fun g=>O g∨g=w.heap.size∨g=w.heap.size+1) (fun g hg=>by
  rcases hg with hg|rfl|rfl
  ·exact .inl hg
  ·exact .inr ⟨Vx8 _,by rw[s0];omega⟩
  ·exact .inr ⟨by omega,by rw[s0];omega⟩)
 have j0:JChg jb n1 w _:=JChg.of W0
 unfold EachOk
 obtain⟨pz,hpz⟩:∃v,payE box (allT ⟨ns,root⟩) xs=v:=⟨_,rfl⟩
 rw[hpz]
 replace hpz:=hid hpz
 replace p0:=hid p0
 replace q0:=hid q0
 replace a0:=hid a0
 replace j0:=hid j0
 replace hT:=hid hT
 replace hD:=hid hD
 clear h
 go_enter Tryz.func137,Tryz.ntmps137
 go_wp2_with (with_reducible refine Zac rfl 24 rfl zTrC Zas ?_)
 generalize (w.alloc (.cells #[.slice A ns.length c,.int .i64 root] 24)).alloc (.cells zTrC 24)=w0 at *
 go_loopw [17] (fun i wr=>∃(j:Nat) (T:Tr) (A':Option Addr) (c':Nat),j≤xs.length∧i=.int .i64 j∧wr.heap[w.heap.size]? =some (.cells #[.slice A' T.ns.length c',.int .i64 T.root] 24 (0,0))∧wr.heap[w.heap.size+1]? =some (.cells zTrC 24 (0,0))∧Hid (AtJ jb n1 (fun g=>O g∨g=w.heap.size∨g=w.heap.size+1) wr A' c' T.ns (rs++payRs box (allT ⟨ns,root⟩) (xs.take j)))∧mayA T=true∧Hid (allT T=payAll box (allT ⟨ns,root⟩) (xs.take j))∧T.ns.length≤ns.length+1200 * j∧(∃ r,T.ns=ns++r)∧Hid (payE box (allT ⟨ns,root⟩) (xs.take j)=0)∧Hid (JChg jb n1 w wr)) (fun i _=>xs.length-(intOf i).toNat)
 case atStart=>exact⟨0,⟨ns,root⟩,A,c,Nat.zero_le _,rfl,p0.out,q0.out,hid (by have:=a0.out;simpa only[List.take_zero,payRs,List.append_nil] using this),hm,hid rfl,by simp,⟨[],by simp⟩,hid rfl,j0⟩
 case round=>
  obtain⟨j,T,A',c',hj,rfl,hp,hq,hAt,hmT,hal,hlT,hgr,hpe,hJ⟩:=hrel
  have hlow1:Below jb w wr:=hJ.out.low hj1 hj2
  by_cases hlt:j<xs.length
  ·obtain⟨b,o,hDe,hrng,hxo⟩:=Zvs (hD.out.kept (fun b hb hl=>hlow1.block b (hF b hb)) hlow1.size) hlt
   subst hDe
   have hlT2:T.ns.length≤90000:=by omega
   obtain⟨hno,hyes⟩:=Yg9 box xs (allT ⟨ns,root⟩) hlt hpe.out hmT (by omega) hal.out
   have hCy:=fun (F:Nat→Prop) W hb1 hb2 hW hT=>ZsU F A' c' T.ns T.root xs[j] box bb W hxo hb1 hb2 hW hlT2 hT
   have hok9:=fun o (h0:payTE T xs[j]=0) (ho:PayOk T xs[j] box o)=>Zd7 h0 ho
   have hnil:=fun o (h0:¬payTE T xs[j]=0) (ho:PayOk T xs[j] box o)=>Yay h0 ho
   have hro:(⟨2,idX xs[j],payTC T xs[j] box⟩:Rc).ok:=YdW _ _ _
   obtain⟨r,hr⟩:∃r:Rc,⟨2,idX xs[j],payTC T xs[j] box⟩=r:=⟨_,rfl⟩
   obtain⟨zj,hzj⟩:∃v,payTE T xs[j]=v:=⟨_,rfl⟩
   have Bb:=hid (Zae (l:=box.1.map bv) (hJ.out.kept hbb YhE hbj))
   rw[hr]at hro hyes
   unfold RcQ at hCy
   rw[show (⟨T.ns,T.root⟩:Tr)=T from rfl,hr,hzj]at hCy
   rw[hzj]at hno hyes hok9 hnil
   obtain⟨Fr,hrow⟩:=hAt.out.row
   have r1:=hid hrow
   have hx1:=hid hrng
   have p1:=hid hp
   have q1:=hid hq
   have a1:=hid hAt.out
   have J1:=hid hJ.out
   have H1:=hid (hT.out.bel hlow1 hTj)
   have n1r:=hid (ZdU r)
   have arc:=hid (Zcg r)
   have zrc:=hid (Zdj r)
   have jrc:=hid (ZdM r)
   have jx:=hid (Zby xs[j])
   have nx:=hid (Zdw xs[j])
   have ax:=hid (Zb2 xs[j])
   have zx:=hid (ZcS xs[j])
   have hlen:(rs++payRs box (allT ⟨ns,root⟩) (xs.take j)).length≤1000:=by
    rw[Vx3,Zh3,List.length_take]
    omega
   have hiT:=hid (show (Tryz.prog.info? 24).map (·.size)=some ([Value.slice A' T.ns.length c',.int .i64 T.root]).length from Zah)
   have j1:(j:Int)<xs.length:=by omega
   replace hCy:=hid hCy
   replace hyes:=hid hyes
   replace hok9:=hid hok9
   replace hlen:=hid hlen
   replace hro:=hid hro
   clear hr hrng hp hq hAt hJ hrow hlow1 hzj hpe
   generalize payRs box (allT ⟨ns,root⟩) (xs.take j)=rj at *
   generalize txC xs[j]=cx at *
   generalize wr=w1 at *
   replace hno:=hid hno
   replace hnil:=hid hnil
   have B1:=hid Bb.out
   clear Bb
   have e1:=hid (Vx0 w1 (.cells zTxC 145))
   go_wp2_with (first
    |(with_reducible refine lDr hx1.out jx.out hux ?_)
    |(with_reducible refine Zac rfl 145 rfl zTxC Zbv ?_)
    |((with_reducible refine stW 11 20 _ 145 zTxC ?_ ?_ ?_ ?_ ?_);exact e1.out;exact ax.out;exact zx.out;exact nx.out;intro w2 hgS hbS hsS;have X2:=hid (Zan rfl hbS);have D2:=hid (Zae (l:=cx) hgS);clear hgS hbS hsS;have p2:=hid ((X2.out.block _ (block_lt p1.out)).trans p1.out);have q2:=hid ((X2.out.block _ (block_lt q1.out)).trans q1.out);have a2:=hid (a1.out.bel X2.out);have J2:=hid (J1.out.bel X2.out);have H2:=hid (Tab.up H1.out X2.out);have r2:=hid (r1.out.bel X2.out);have B2:=hid (Zab X2.out B1.out);clear p1 q1 a1 J1 H1 r1 B1;have t2:=hid (Zae (l:=[Value.slice A' T.ns.length c',.int .i64 T.root]) p2.out))
    |(with_reducible refine lDr t2.out hiT.out hut ?_)
    |(with_reducible refine lDr D2.out jx.out hux ?_))
   refine(hCy.out _ _ B2.out (Vx4 (block_lt hbb) (Chg.size J2.out)) r2.out H2.out).mono ?_
   rintro e w3 ⟨⟨na,ra⟩,ad,cd,rfl,ho,hb,hok⟩
   dsimp only at ho hok ⊢
   have a3:=hid (a2.out.fresh hb ho)
   clear a2 r2
   have p3:=hid ((hb.block _ (block_lt p2.out)).trans p2.out)
   have q3:=hid ((hb.block _ (block_lt q2.out)).trans q2.out)
   have J3:=hid (J2.out.bel hb)
   have H3:=hid (Tab.up H2.out hb)
   have B3:=hid (Zab hb B2.out)
   clear p2 q2 J2 H2 B2
   replace hok:=hid hok
   have W3s:=hid (show jb<w3.heap.size from Vx4 hj1 a3.out.size.2)
   clear hb ho hCy t2 D2 X2
   have ea:=hid (((Zad (w3.alloc (.cells zTrC 24)) (.cells zRcC 148)).block _ (by rw[Vx2];exact Nat.lt_succ_self _)).trans (Vx0 w3 (.cells zTrC 24)))
   have eb:=Vx0 (w3.alloc (.cells zTrC 24)) (.cells zRcC 148)
   rw[Vx2]at eb
   replace eb:=hid eb
   have hW3:=hid (Zag (Zad w3 (.cells zTrC 24)) (Zad (w3.alloc (.cells zTrC 24)) (.cells zRcC 148)))
   have hiE:=hid (show (Tryz.prog.info? 24).map (·.size)=some ([Value.slice ad na.length cd,.int .i64 ra]).length from Zah)
   by_cases hz0:zj=0
   case neg=>
    have hzn:(zj !=0)=true:=bne_iff_ne.2 hz0
    have hE:=hno.out hz0
    obtain rfl:pz=zj:=hpz.out.symm.trans hE
    clear hE hno hpz
    go_wp2_with (first
     |(with_reducible refine Zac rfl 24 rfl zTrC Zas ?_)
     |(with_reducible refine Zac rfl 148 rfl zRcC ZbQ ?_)
     |((with_reducible refine stW 12 26 _ 24 zTrC ?_ ?_ ?_ ?_ ?_);exact ea.out;exact Zah;rfl;exact Zat ad na.length cd ra;intro w4a g1 b1 s1;refine wpList_store_row rfl 148 (.tmp 13) (.tmp 27) rfl (w3.heap.size+1) _ ?_ rfl 148 zRcC ?_ ?_ ?_ ?_ ?_;(first|rfl|(simp only[Vx2];rfl));exact(b1.block _ (block_lt eb.out) (by simp)).trans eb.out;exact arc.out;exact zrc.out;exact n1r.out;intro w4 g2 b2 s2;have X4a:=hW3.out.grown b1 hW3.out.size (fun k e=>by injection e with e;omega);have X4:=hid (X4a.grown b2 X4a.size (fun k e=>by injection e with e;omega));have E4:=hid ((b2.block _ (block_lt g1) (by simp)).trans g1);have D4:=hid (Zae (l:=rcC r) g2);clear g1 b1 s1 g2 b2 s2 X4a ea eb hW3;have p4:=hid ((X4.out.block _ (block_lt p3.out)).trans p3.out);have q4:=hid ((X4.out.block _ (block_lt q3.out)).trans q3.out);have J4:=hid (J3.out.bel X4.out);have H4:=hid (Tab.up H3.out X4.out);have B4:=hid (Zab X4.out B3.out);have a4:=hid (a3.out.bel X4.out);clear p3 q3 J3 H3 B3 a3)
     |((with_reducible refine Zaf rfl 24 _ rfl zTrC [] ?_ ?_ ?_);exact ZbU;rfl)
     |((with_reducible refine stW 8 31 (w.heap.size+1) 24 zTrC ?_ ?_ ?_ ?_ ?_);exact q4.out;exact Zah;rfl;exact Zat none 0 0 0;intro w7 hg7 hb7 hs7))
    exact Vy0 (Zce Tryz.results137 _ _ (w.heap.size+1) none 0 0 0 rfl hg7) rfl ⟨⟨[],0⟩,none,0,rfl,J4.out.store hb7 (by omega),fun h=>absurd h hz0,fun _=>rfl⟩
   case pos=>
    subst hz0
    go_wp2_with (first
     |(with_reducible refine Zac rfl 24 rfl zTrC Zas ?_)
     |(with_reducible refine Zac rfl 148 rfl zRcC ZbQ ?_)
     |((with_reducible refine stW 12 26 _ 24 zTrC ?_ ?_ ?_ ?_ ?_);exact ea.out;exact Zah;rfl;exact Zat ad na.length cd ra;intro w4a g1 b1 s1;refine wpList_store_row rfl 148 (.tmp 13) (.tmp 27) rfl (w3.heap.size+1) _ ?_ rfl 148 zRcC ?_ ?_ ?_ ?_ ?_;(first|rfl|(simp only[Vx2];rfl));exact(b1.block _ (block_lt eb.out) (by simp)).trans eb.out;exact arc.out;exact zrc.out;exact n1r.out;intro w4 g2 b2 s2;have X4a:=hW3.out.grown b1 hW3.out.size (fun k e=>by injection e with e;omega);have X4:=hid (X4a.grown b2 X4a.size (fun k e=>by injection e with e;omega));have E4:=hid ((b2.block _ (block_lt g1) (by simp)).trans g1);have D4:=hid (Zae (l:=rcC r) g2);clear g1 b1 s1 g2 b2 s2 X4a ea eb hW3;have p4:=hid ((X4.out.block _ (block_lt p3.out)).trans p3.out);have q4:=hid ((X4.out.block _ (block_lt q3.out)).trans q3.out);have J4:=hid (J3.out.bel X4.out);have H4:=hid (Tab.up H3.out X4.out);have B4:=hid (Zab X4.out B3.out);have a4:=hid (a3.out.bel X4.out);clear p3 q3 J3 H3 B3 a3)
     |(with_reducible refine lDr D4.out jrc.out hur ?_))
    obtain⟨hy1,hy2,hy3,hy4⟩:=hok9.out ⟨na,ra⟩ (by trivial) hok.out
    dsimp only at hy3 hy4
    obtain⟨hz1,hz2,hz3⟩:=hyes.out (by trivial)
    refine(Zn3 jb n1 _ ad cd na (rs++rj) r w4 a4.out hro.out hlen.out).mono ?_
    rintro e w5 ⟨rfl,a5',hJ5⟩
    have a5:=hid a5'
    have p5:=hid (hJ5.kept p4.out ZcP (by have:=hj2;omega))
    have q5:=hid (hJ5.kept q4.out ZcP (by have:=hj2;omega))
    have E5:=hid (hJ5.kept E4.out ZcP (by have:=W3s.out;omega))
    have J5:=hid (J4.out.trans hJ5)
    have t5:=hid (Zae (l:=[Value.slice ad na.length cd,.int .i64 ra]) E5.out)
    clear a5' hJ5 a4 p4 q4 E4 D4 J4 H4 B4
    go_wp2_with (first
     |(with_reducible refine lDr t5.out hiE.out hut ?_)
     |((with_reducible refine wpList_store_row rfl 24 (.tmp 4) (.tmp 36) rfl w.heap.size _ rfl rfl 24 #[Value.slice A' T.ns.length c',.int .i64 T.root] ?_ ?_ ?_ ?_ ?_);exact p5.out;exact Zah;rfl;exact Zat ad na.length cd ra;intro w6 hg6 hb6 hs6;have p6:=hid hg6;have q6:=hid ((hb6.block _ (block_lt q5.out) (fun e=>by injection e with e;omega)).trans q5.out);have a6:=hid (a5.out.store hb6 p5.out ZcP (by omega) (.inr (.inl rfl)));have J6:=hid (J5.out.store hb6 (Vx8 _));clear hg6 hb6 hs6))
    go_roundw
    case rel=>exact⟨j+1,⟨na,ra⟩,ad,cd,by omega,by go_num,p6.out,q6.out,hid (by rw[hz3,←List.append_assoc];exact a6.out),hy1,hid (by rw[hz2];exact hy2),by dsimp only;omega,by obtain⟨r1,e1⟩:=hgr;obtain⟨r2,e2⟩:=hy4;exact⟨r1++r2,by rw[← List.append_assoc,←e1];exact e2⟩,hid hz1,J6⟩
    case measure=>simp[intOf];omega
  ·obtain rfl:j=xs.length:=by omega
   have hE:=hpe.out
   rw[List.take_length]at hE
   obtain rfl:pz=0:=hpz.out.symm.trans hE
   clear hE hpz
   have hal2:=hal.out
   rw[List.take_length]at hal2 hAt
   have hiT:=hid (show (Tryz.prog.info? 24).map (·.size)=some ([Value.slice A' T.ns.length c',.int .i64 T.root]).length from Zah)
   have t0:=hid (Zae (l:=[Value.slice A' T.ns.length c',.int .i64 T.root]) hp)
   have q0':=hid hq
   have j2:(xs.length:Int)≤xs.length:=Int.le_refl _
   replace hal2:=hid hal2
   clear hal hp hq hlow1
   go_wp2_with (first
    |(with_reducible refine lDr t0.out hiT.out hut ?_)
    |((with_reducible refine stW 8 38 (w.heap.size+1) 24 zTrC ?_ ?_ ?_ ?_ ?_);exact q0'.out;exact Zah;rfl;exact Zat A' T.ns.length c' T.root;intro w7 hg7 hb7 hs7))
   exact Vy0 (Zce Tryz.results137 _ _ (w.heap.size+1) A' T.ns.length c' T.root rfl hg7) rfl ⟨T,A',c',rfl,hJ.out.store hb7 (by omega),(hAt.out.store hb7 q0'.out ZcP (by omega) (.inr (.inr rfl))).more (Below.refl _ _) (fun g hg=>.inl (.inl hg)),hmT,hal2.out,hlT,hgr⟩
theorem Yjs:(Tryz.prog.info? 182).map (fun i=>(i.zero,i.size))=some (some (.agg #[.slice none 0 0]),(#[Value.slice none 0 0]:Array Value).size):=by kernel_rfl
theorem Zqe{P:Program}{ops:Array Oper}{o:Oper}{a:Act}{w:World}{K:Act→World→Prop}{Q:Exit→Act→World→Prop}{X:Prop}(hw:o.guard=none)(ty:TypeId)(x:Operand)(ho:o.op=.load ty x)
  (b i:Nat) (hx:a.eval x=.pointer (some ⟨b,i,none⟩)) (cs:List Value) (d:TypeDesc) (hS:w.rangeAt b i cs)
  (hu:P.underlying ty=some d) (hd:d.isRow=true) (hi:(P.info? ty).map (·.size)=some cs.length)
  (h:K (a.put o.dst (.agg cs.toArray)) w):if Region.wanted o (yielded ops a.tmps)=true then Oper.wp P o a w K Q else X:=by
 rw[if_pos (by simp[Region.wanted,hw])]
 unfold Oper.wp execOp
 simp only[ho,hx,Instr.loadAt,Instr.sureAddr,Sem.run_bind,Sem.run_pure,Result.andThen_ok,run_loadVar_mid w b i ty cs d hS hu hd hi]
 exact h
theorem Yf2(w:World)(A:Option Addr)(n c:Nat)(root:Int)(m q:List Value)(t u v x y:TypeId):
  let W:=((((w.alloc (.cells #[.slice A n c,.int .i64 root] t)).alloc (.cells m.toArray u)).alloc (.cells q.toArray v)).alloc (.cells zTrC x)).alloc (.cells #[.slice none 0 0] y)
  W.rangeAt w.heap.size 0 [.slice A n c,.int .i64 root]∧W.rangeAt (w.heap.size+1) 0 m∧W.rangeAt (w.heap.size+1+1) 0 q∧W.heap[w.heap.size+1+1+1]? =some (.cells zTrC x (0,0))∧W.heap[w.heap.size+1+1+1+1]? =some (.cells #[.slice none 0 0] y (0,0))∧Below w.heap.size w W∧W.heap.size=w.heap.size+1+1+1+1+1:=by
 intro W
 have h1:=Zae (l:=[Value.slice A n c,.int .i64 root]) (Vx0 w (.cells #[.slice A n c,.int .i64 root] t))
 have h2:=Zae (Vx0 (w.alloc (.cells #[.slice A n c,.int .i64 root] t)) (.cells m.toArray u))
 have h3:=Zae (Vx0 ((w.alloc (.cells #[.slice A n c,.int .i64 root] t)).alloc (.cells m.toArray u)) (.cells q.toArray v))
 have h4:=Vx0 (((w.alloc (.cells #[.slice A n c,.int .i64 root] t)).alloc (.cells m.toArray u)).alloc (.cells q.toArray v)) (.cells zTrC x)
 have h5:=Vx0 ((((w.alloc (.cells #[.slice A n c,.int .i64 root] t)).alloc (.cells m.toArray u)).alloc (.cells q.toArray v)).alloc (.cells zTrC x)) (.cells #[.slice none 0 0] y)
 have h6:=(Zad ((((w.alloc (.cells #[.slice A n c,.int .i64 root] t)).alloc (.cells m.toArray u)).alloc (.cells q.toArray v)).alloc (.cells zTrC x)) (.cells #[.slice none 0 0] y)).block _ (block_lt h4)
 simp only[Vx2]at h2 h3 h4 h5 h6
 exact⟨Zab (Zad _ _) (Zab (Zad _ _) (Zab (Zad _ _) (Zab (Zad _ _) h1))),Zab (Zad _ _) (Zab (Zad _ _) (Zab (Zad _ _) h2)),Zab (Zad _ _) (Zab (Zad _ _) h3),h6.trans h4,h5,
  Zag (Zag (Zag (Zag (Zad _ _) (Zad _ _)) (Zad _ _)) (Zad _ _)) (Zad _ _),by simp only[W,Vx2]⟩
def ApJ(w w0:World)(rs:List Rc)(L:List Pr)(k:Nat)(ns:List Nd)(z:Int)(a:Act)(W:World):Prop:=∃y0 y1 y2 y13 y14 y15 y16 y17 y18 y19 y20 y21 y22 y23 y24 y25 y26 y27 y28 y29 y30 y31 y32 y33 y34 y35 y36 y37 y38 y39 y40 y41 y42 y43:Value,∃(g:Nat) (o:Tr) (A:Option Addr) (c:Nat),a={ tmps:=#[y0,y1,y2,.pointer (some ⟨w.heap.size,0,none⟩),.pointer (some ⟨w.heap.size+1,0,none⟩),.pointer (some ⟨w.heap.size+1+1,0,none⟩),.pointer (some ⟨w.heap.size+1+1+1,0,none⟩),.slice none 0 0,.int .i64 0,.pointer (some ⟨w.heap.size+1+1+1+1,0,none⟩),.func (.func 134) #[.pointer (some ⟨w.heap.size+1+1+1+1,0,none⟩)] #[],.pointer (some ⟨g,0,none⟩),.int .i64 z,y13,y14,y15,y16,y17,y18,y19,y20,y21,y22,y23,y24,y25,y26,y27,y28,y29,y30,y31,y32,y33,y34,y35,y36,y37,y38,y39,y40,y41,y42,y43],defers:=[] }∧
 W.heap[g]? =some (.cells #[.slice A o.ns.length c,.int .i64 o.root] 24 (0,0))∧(w.heap.size+1+1+1+1+1)≤g∧JChg (w.heap.size+1+1+1+1) (w.heap.size+1+1+1+1+1) w0 W∧(z=0→AtJ (w.heap.size+1+1+1+1) (w.heap.size+1+1+1+1+1) (fun b=>b=g) W A c o.ns rs∧mayA o=true∧allT o=L∧o.ns.length≤k∧∃r,o.ns=ns++r)
def AppliedOk(t:Tr)(ds:List Dp)(xs:List Tx)(box:Dg)(w:World)(e:Ending)(w':World):Prop:=∃(o:Tr) (A':Option Addr) (c':Nat) (R:Option Addr) (rc:Nat),
 e=.returned (.tuple #[.agg #[.slice A' o.ns.length c',.int .i64 o.root],.slice R (madeRs (allT t) ds xs box).length rc,.int .i64 (madeE (allT t) ds xs box)])∧OwnR 106 w' w.heap.size A' c' o.ns∧OwnR 148 w' w.heap.size R rc (madeRs (allT t) ds xs box)∧Below w.heap.size w w'∧
 (if madeE (allT t) ds xs box=0 then (mayA o=true∧allT o=madeL (allT t) ds xs box∧o.ns.length≤t.ns.length+1200 * ds.length+1200 * xs.length∧∃r,o.ns=t.ns++r) else o=⟨[],0⟩)
theorem ZnS(F Fd Fx:Nat→Prop)(A:Option Addr)(c:Nat)(ns:List Nd)(root:Int)(D:Option Addr)(d:Nat)(ds:List Dp)(X:Option Addr)(e:Nat)(xs:List Tx)(box:Dg)(w:World)(hr:Row F w A ns)(hm:mayA ⟨ns,root⟩=true)(hl:ns.length≤50000)(hD:Row Fd w D ds)(hX:Row Fx w X xs)(ld:ds.length≤16)(lx:xs.length≤16)(hT:Tab w):
  Calls Tryz.prog 90 #[.agg #[.slice A ns.length c,.int .i64 root],.agg #[.slice D ds.length d,.slice X xs.length e],.agg (box.1.map bv).toArray] w (AppliedOk ⟨ns,root⟩ ds xs box w):=by
 have hut:=Tryz.underlying24
 have hub:=Tryz.underlying35
 have hu:=Tryz.underlying37
 obtain⟨T0,B0,S0,z0,k0,W0,s0⟩:=Yf2 w A ns.length c root [.slice D ds.length d,.slice X xs.length e] (box.1.map bv) 24 35 37 24 182
 have R0:=(hr.mono (G:=fun b=>b<w.heap.size) fun b _ h=>h).bel W0
 have P0:=(hD.mono (G:=fun b=>b<w.heap.size) fun b _ h=>h).bel W0
 have Q0:=(hX.mono (G:=fun b=>b<w.heap.size) fun b _ h=>h).bel W0
 have H0:=hT.bel W0 hT.low
 have hlow:=hT.low
 have hv:=Znh (Zft hm).1
 have hiT:=hid (show (Tryz.prog.info? 24).map (·.size)=some ([Value.slice A ns.length c,.int .i64 root]).length from Zah)
 have hiS:=hid (Zaz box)
 unfold AppliedOk
 generalize hL:allT ⟨ns,root⟩=L at *
 obtain⟨pz,hpz⟩:∃v,madeE L ds xs box=v:=⟨_,rfl⟩
 obtain⟨mrs,hmr⟩:∃v,madeRs L ds xs box=v:=⟨_,rfl⟩
 obtain⟨mL,hml⟩:∃v,madeL L ds xs box=v:=⟨_,rfl⟩
 have eR:mrs=if pz=0 then giveRs L ds++payRs box (giveAll L ds) xs else []:=by rw[← hmr];unfold madeRs;rw[hpz]
 have eL:mL=if pz=0 then payAll box (giveAll L ds) xs else []:=by rw[← hml];unfold madeL;rw[hpz]
 have eE:payE box (giveAll L ds) xs=pz:=hpz
 rw[hmr,hml,hpz]
 replace eR:=hid eR
 replace eL:=hid eL
 replace eE:=hid eE
 replace hv:=hid hv
 replace T0:=hid T0
 replace B0:=hid B0
 replace S0:=hid S0
 replace z0:=hid z0
 replace k0:=hid k0
 replace W0:=hid W0
 replace s0:=hid s0
 replace R0:=hid R0
 replace P0:=hid P0
 replace Q0:=hid Q0
 replace H0:=hid H0
 replace hlow:=hid hlow
 replace hL:=hid hL
 clear hr hD hX hT hpz hmr hml
 go_enter Tryz.func90,Tryz.ntmps90
 go_wp2_with (first
  |(with_reducible refine Zac rfl 24 rfl zTrC Zas ?_)
  |(with_reducible refine Zac rfl 182 rfl #[.slice none 0 0] Yjs ?_))
 generalize ((((w.alloc (.cells #[.slice A ns.length c,.int .i64 root] 24)).alloc (.cells #[Value.slice D ds.length d,.slice X xs.length e] 35)).alloc (.cells (box.1.map bv).toArray 37)).alloc (.cells zTrC 24)).alloc (.cells #[.slice none 0 0] 182)=w0 at *
 have hj:(w.heap.size+1+1+1+1)<(w.heap.size+1+1+1+1+1):=Nat.lt_succ_self _
 have hn:(w.heap.size+1+1+1+1+1)≤w0.heap.size:=by rw[s0.out];exact Vx8 _
 refine ZsN (ApJ w w0 (giveRs L ds) (giveAll L ds) (ns.length+1200 * ds.length) ns 0) ?first ?rest
 case first=>
  have hOw:=fun (W:World) (hW:JChg (w.heap.size+1+1+1+1) (w.heap.size+1+1+1+1+1) w0 W)=>(show Row (fun b=>b<w.heap.size) W A ns∧Row (fun b=>b<w.heap.size) W D ds∧Tab W from ⟨R0.out.kept (fun b hb hl=>(hW.low hj hn).block b (by omega)) (Chg.size hW),P0.out.kept (fun b hb hl=>(hW.low hj hn).block b (by omega)) (Chg.size hW),H0.out.bel (hW.low hj hn) (by have:=hlow.out;omega)⟩)
  have hTw:=fun W hW=>ZeC (fun b=>b<w.heap.size) A c ns root W hW (by omega) hv.out
  have hMk:=fun (O:Nat→Prop) (W W':World) (hW:JChg (w.heap.size+1+1+1+1) (w.heap.size+1+1+1+1+1) w0 W) (hb:Below W.heap.size W W') (hk:W.heap[(w.heap.size+1+1+1+1)]? =some (.cells #[.slice none 0 0] 182 (0,0))) A1 c1 (ho:OwnR 106 W' W.heap.size A1 c1 ns) (hO:∀g,O g→g<W.heap.size)=>(show AtJ (w.heap.size+1+1+1+1) (w.heap.size+1+1+1+1+1) O W' A1 c1 ns [] from
   ⟨W.heap.size,W'.heap.size,none,0,Vx1 hn (Chg.size hW),hj,Vx1 hn (Vx1 (Chg.size hW) hb.size),Vx8 _,fun g hg=>⟨Vx4 (hO g hg) hb.size,.inl (hO g hg)⟩,Zone.none _ _,OwnM.of ho,RowO.nil _ _ _,(hb.block _ (block_lt hk)).trans hk⟩)
  replace hOw:=hid hOw
  replace hTw:=hid hTw
  replace hMk:=hid hMk
  have hEa:=hid (fun (O:Nat→Prop) A1 c1 W h hD hT=>Zqu (w.heap.size+1+1+1+1) (w.heap.size+1+1+1+1+1) O A1 c1 ns root (fun b=>b<w.heap.size) D d ds [] W h hm (by omega) hD (fun b hb=>by omega) (by simp only[List.length_nil];omega) hT (by have:=hlow.out;omega))
  focus
   refine wp_region_noPanic ?_
   refine wp_region_held_drew (S:=fun W=>JChg (w.heap.size+1+1+1+1) (w.heap.size+1+1+1+1+1) w0 W) (by kernel_rfl) ?_ (fun hHeld=>?_)
   ·exact JChg.of (Zao w0)
   refine' tkM 0 rfl (fun _ h=>Zak T0.out (fun hb=>JChg.keptB h hb (by omega) (by omega))) hut hiT.out ?_
   refine' tkP 2 rfl ?_
   refine' tkF 3 (fun W hSw=>(Zak B0.out (fun hb=>JChg.keptB hSw hb (by omega) (by omega))) 0 _ rfl) rfl ?_
   refine' tkP 4 rfl ?_
   simp only[sQ]
   refine Ynx 1 9 rfl rfl (fun K hK=>?_) (fun K hK=>?_)
   focus
    go_simp
    refine(hTw.out _ (hOw.out _ hHeld).1).mono ?_
    rintro e v1 ⟨A1,c1,rfl,ho1,hB1⟩
    first
    |have at1:=hMk.out (fun b=>b=g9) _ _ hHeld hB1 ((hB9.block _ (block_lt (show w0.drew.heap[(w.heap.size+1+1+1+1)]? =_ from k0.out))).trans k0.out) A1 c1 ho1 (fun b hb=>by subst hb;exact block_lt e9)
    |have at1:=hMk.out (fun _=>False) _ _ hHeld hB1 (show w0.drew.heap[(w.heap.size+1+1+1+1)]? =_ from k0.out) A1 c1 ho1 (fun b hb=>hb.elim)
    go_wp2_with fail
    refine hK.out _ _ (JChg.bel hHeld hB1) fun hHeld=>?_
    clear hK K
    try simp only[sQ]
    refine Ynx 5 9 rfl rfl (fun K hK=>?_) (fun K hK=>?_)
    focus
     go_simp
     first
     |have at4:=at1.more hB9 (O':=fun b=>b=g9) (fun b hb=>.inr ⟨by subst hb;exact b9,by subst hb;exact block_lt e9⟩)
     |have at4:=at1
     refine(hEa.out _ A1 c1 _ at4 (hOw.out _ hHeld).2.1 (hOw.out _ hHeld).2.2).mono ?_
     rintro e v5 ⟨o5,A5,c5,rfl,J5,h5,-⟩
     obtain⟨at5,m5,al5,l5,g5⟩:=h5 rfl
     go_wp2_with fail
     refine hK.out _ _ (JChg.trans hHeld J5) fun hHeld=>?_
     clear hK K
     try simp only[sQ]
     refine' tkW 6 7 ?_
     refine' tkP 8 rfl ?_
     simp only[sQ]
     refine rdH 9 rfl fun K hK=>?_
     refine Zar rfl 24 rfl zTrC Zas ?_
     intro g9 v9 b9 e9 hB9
     have n9:=Vx1 hn (Vx1 (Chg.size hHeld) b9)
     refine hK.out _ _ (JChg.bel hHeld hB9) fun hHeld=>?_
     clear hK K
     try simp only[sQ]
    rotate_left
    focus
     refine Zar rfl 24 rfl zTrC Zas ?_
     intro g9 v9 b9 e9 hB9
     have n9:=Vx1 hn (Vx1 (Chg.size hHeld) b9)
     refine hK.out _ _ (JChg.bel hHeld hB9) fun hHeld=>?_
     clear hK K
     try simp only[sQ]
     refine rdH 5 rfl fun K hK=>?_
     go_simp
     first
     |have at4:=at1.more hB9 (O':=fun b=>b=g9) (fun b hb=>.inr ⟨by subst hb;exact b9,by subst hb;exact block_lt e9⟩)
     |have at4:=at1
     refine(hEa.out _ A1 c1 _ at4 (hOw.out _ hHeld).2.1 (hOw.out _ hHeld).2.2).mono ?_
     rintro e v5 ⟨o5,A5,c5,rfl,J5,h5,-⟩
     obtain⟨at5,m5,al5,l5,g5⟩:=h5 rfl
     go_wp2_with fail
     refine hK.out _ _ (JChg.trans hHeld J5) fun hHeld=>?_
     clear hK K
     try simp only[sQ]
     refine' tkW 6 7 ?_
     refine' tkP 8 rfl ?_
     simp only[sQ]
   rotate_left 2
   focus
    refine Zar rfl 24 rfl zTrC Zas ?_
    intro g9 v9 b9 e9 hB9
    have n9:=Vx1 hn (Vx1 (Chg.size hHeld) b9)
    refine hK.out _ _ (JChg.bel hHeld hB9) fun hHeld=>?_
    clear hK K
    try simp only[sQ]
    refine rdH 1 rfl fun K hK=>?_
    go_simp
    refine(hTw.out _ (hOw.out _ hHeld).1).mono ?_
    rintro e v1 ⟨A1,c1,rfl,ho1,hB1⟩
    first
    |have at1:=hMk.out (fun b=>b=g9) _ _ hHeld hB1 ((hB9.block _ (block_lt (show w0.drew.heap[(w.heap.size+1+1+1+1)]? =_ from k0.out))).trans k0.out) A1 c1 ho1 (fun b hb=>by subst hb;exact block_lt e9)
    |have at1:=hMk.out (fun _=>False) _ _ hHeld hB1 (show w0.drew.heap[(w.heap.size+1+1+1+1)]? =_ from k0.out) A1 c1 ho1 (fun b hb=>hb.elim)
    go_wp2_with fail
    refine hK.out _ _ (JChg.bel hHeld hB1) fun hHeld=>?_
    clear hK K
    try simp only[sQ]
    refine rdH 5 rfl fun K hK=>?_
    go_simp
    first
    |have at4:=at1.more hB9 (O':=fun b=>b=g9) (fun b hb=>.inr ⟨by subst hb;exact b9,by subst hb;exact block_lt e9⟩)
    |have at4:=at1
    refine(hEa.out _ A1 c1 _ at4 (hOw.out _ hHeld).2.1 (hOw.out _ hHeld).2.2).mono ?_
    rintro e v5 ⟨o5,A5,c5,rfl,J5,h5,-⟩
    obtain⟨at5,m5,al5,l5,g5⟩:=h5 rfl
    go_wp2_with fail
    refine hK.out _ _ (JChg.trans hHeld J5) fun hHeld=>?_
    clear hK K
    try simp only[sQ]
    refine' tkW 6 7 ?_
    refine' tkP 8 rfl ?_
    simp only[sQ]
   all_goals
    refine rdH 10 rfl fun K hK=>?_
    refine Zaj rfl 24 (.tmp 11) (.tmp 21) rfl g9 _ rfl rfl 24 zTrC (by first|exact e9|exact J5.kept e9 ZcP (by omega)|exact J5.kept ((hB1.block _ (block_lt e9)).trans e9) ZcP (by omega)) Zah rfl (Zat A5 o5.ns.length c5 o5.root) ?_
    intro v10 d10 hG10
    first
    |have at10:=AtJ.store (AtJ.more at5 hB9 (O':=fun b=>b=g9) (fun b hb=>.inr ⟨by subst hb;exact b9,by subst hb;exact block_lt e9⟩)) hG10 e9 ZcP (by omega) rfl
    |have at10:=AtJ.store at5 hG10 (J5.kept e9 ZcP (by omega)) ZcP (by omega) rfl
    |have at10:=AtJ.store at5 hG10 (J5.kept ((hB1.block _ (block_lt e9)).trans e9) ZcP (by omega)) ZcP (by omega) rfl
    refine hK.out _ _ (JChg.store hHeld hG10 (by have:=s0.out;omega)) fun hHeld=>?_
    clear hK K
    try simp only[sQ]
    refine' tkP 11 rfl ?_
    simp only[sQ]
    refine dnN ?_
    exact⟨_,_,_,_,_,_,_,_,_,_,_,_,_,_,_,_,_,_,_,_,_,_,_,_,_,_,_,_,_,_,_,_,_,_,g9,o5,A5,c5,rfl,d10,n9,hHeld,fun _=>⟨by have:=at10;rw[hL.out]at this;exact this,m5,al5.trans (by rw[hL.out]),l5,g5⟩⟩
 case rest=>
  rintro a W ⟨y0,y1,y2,y13,y14,y15,y16,y17,y18,y19,y20,y21,y22,y23,y24,y25,y26,y27,y28,y29,y30,y31,y32,y33,y34,y35,y36,y37,y38,y39,y40,y41,y42,y43,g,o,A2,c2,rfl,hg,hng,hJ,hat⟩
  obtain⟨hat,hmo,hal,hlo,hgr⟩:=hat rfl
  have Pg:=hid hg
  have J1:=hid hJ
  have a1:=hid hat
  clear hg hJ hat
  go_wp2_with fail
  refine ZsN (ApJ w w0 (giveRs L ds++payRs box (giveAll L ds) xs) (payAll box (giveAll L ds) xs) (ns.length+1200 * ds.length+1200 * xs.length) ns pz) ?first ?rest
  case first=>
   have hOw:=hid (fun (V:World) (hV:JChg (w.heap.size+1+1+1+1) (w.heap.size+1+1+1+1+1) w0 V)=>(show Row (fun b=>b<w.heap.size) V X xs∧Tab V from ⟨Q0.out.kept (fun b hb hl=>(hV.low hj hn).block b (by omega)) (Chg.size hV),H0.out.bel (hV.low hj hn) (by have:=hlow.out;omega)⟩))
   have hEx:=hid (fun (bb:Nat) V h hX hT hbb hbj=>Zqv (w.heap.size+1+1+1+1) (w.heap.size+1+1+1+1+1) (fun b=>b=g) A2 c2 o.ns o.root (fun b=>b<w.heap.size) X e xs box bb (giveRs L ds) V h hmo (by omega) hX (fun b hb=>by omega) (by rw[Zde];omega) hT (by have:=hlow.out;omega) hbb hbj)
   have hiO:=hid (show (Tryz.prog.info? 24).map (·.size)=some ([Value.slice A2 o.ns.length c2,.int .i64 o.root]).length from Zah)
   have hPt:=hid (fun V=>Zqw box V)
   focus
    refine wp_region_noPanic ?_
    refine wp_region_held_drew (S:=fun V=>JChg (w.heap.size+1+1+1+1) (w.heap.size+1+1+1+1+1) w0 V) (by kernel_rfl) ?_ (fun hHeld=>?_)
    ·exact JChg.bel J1.out (Zao W)
    refine' tkP 1 rfl ?_
    refine' tkF 2 (fun W hSw=>(Zak B0.out (fun hb=>JChg.keptB hSw hb (by omega) (by omega))) 1 _ rfl) rfl ?_
    refine' tkM 3 rfl (fun _ h=>Zak S0.out (fun hb=>JChg.keptB h hb (by omega) (by omega))) hu hiS.out ?_
    refine' tkP 5 rfl ?_
    simp only[sQ]
    refine Ynx 0 4 rfl rfl (fun K hK=>?_) (fun K hK=>?_)
    focus
     refine Zqe rfl 24 (.tmp 11) rfl g 0 rfl [Value.slice A2 o.ns.length c2,.int .i64 o.root] _ (Zae (l:=[Value.slice A2 o.ns.length c2,.int .i64 o.root]) (by first|exact(hB4.block _ (block_lt (show W.drew.heap[g]? =_ from Pg.out))).trans Pg.out|exact Pg.out)) hut rfl hiO.out ?_
     refine hK.out _ _ (hHeld) fun hHeld=>?_
     clear hK K
     try simp only[sQ]
     refine rdH 4 rfl fun K hK=>?_
     go_simp
     refine(hPt.out _).mono ?_
     rintro e v4 ⟨rfl,d4,s4,hB4⟩
     go_wp2_with fail
     refine hK.out _ _ (JChg.bel hHeld hB4) fun hHeld=>?_
     clear hK K
     try simp only[sQ]
    rotate_left
    focus
     go_simp
     refine(hPt.out _).mono ?_
     rintro e v4 ⟨rfl,d4,s4,hB4⟩
     go_wp2_with fail
     refine hK.out _ _ (JChg.bel hHeld hB4) fun hHeld=>?_
     clear hK K
     try simp only[sQ]
     refine rdH 0 rfl fun K hK=>?_
     refine Zqe rfl 24 (.tmp 11) rfl g 0 rfl [Value.slice A2 o.ns.length c2,.int .i64 o.root] _ (Zae (l:=[Value.slice A2 o.ns.length c2,.int .i64 o.root]) (by first|exact(hB4.block _ (block_lt (show W.drew.heap[g]? =_ from Pg.out))).trans Pg.out|exact Pg.out)) hut rfl hiO.out ?_
     refine hK.out _ _ (hHeld) fun hHeld=>?_
     clear hK K
     try simp only[sQ]
    all_goals
     refine rdH 6 rfl fun K hK=>?_
     go_simp
     have at4:=(AtJ.bel a1.out (Zao W)).bel hB4
     have p4:=(hB4.block _ (block_lt (show W.drew.heap[g]? =_ from Pg.out))).trans Pg.out
     refine(hEx.out _ _ at4 (hOw.out _ hHeld).1 (hOw.out _ hHeld).2 d4 (by have:=a1.out.size.2;have:=(Zao W).size;omega)).mono ?_
     rintro e v6 ⟨o6,A6,c6,rfl,J6,h6,n6⟩
     have p6:=J6.kept p4 ZcP (by omega)
     go_wp2_with fail
     refine hK.out _ _ (JChg.trans hHeld J6) fun hHeld=>?_
     clear hK K
     try simp only[sQ]
     refine' tkW 7 8 ?_
     refine' tkP 9 rfl ?_
     simp only[sQ]
     refine rdH 10 rfl fun K hK=>?_
     refine Zaj rfl 24 (.tmp 11) (.tmp 35) rfl g _ rfl rfl 24 #[.slice A2 o.ns.length c2,.int .i64 o.root] p6 Zah rfl (Zat A6 o6.ns.length c6 o6.root) ?_
     intro v10 d10 hG10
     refine hK.out _ _ (JChg.store hHeld hG10 (by have:=s0.out;omega)) fun hHeld=>?_
     clear hK K
     try simp only[sQ]
     refine' tkP 11 rfl ?_
     simp only[sQ]
     refine dnN ?_
     simp only[hal,eE.out]at h6 ⊢
     exact⟨_,_,_,_,_,_,_,_,_,_,_,_,_,_,_,_,_,_,_,_,_,_,_,_,_,_,_,_,_,_,_,_,_,_,g,o6,A6,c6,rfl,d10,hng,hHeld,fun hz=>by
      obtain⟨k1,k2,k3,k4,k5⟩:=h6 hz
      exact⟨k1.store hG10 p6 ZcP (by omega) rfl,k2,k3,by(try dsimp only at k4);omega,by obtain⟨r1,e1⟩:=hgr;obtain⟨r2,e2⟩:=k5;exact⟨r1++r2,by rw[← List.append_assoc,←e1];exact e2⟩⟩⟩
  case rest=>
   clear Pg J1 a1 hmo hal hlo hgr
   rintro a V ⟨y0,y1,y2,y13,y14,y15,y16,y17,y18,y19,y20,y21,y22,y23,y24,y25,y26,y27,y28,y29,y30,y31,y32,y33,y34,y35,y36,y37,y38,y39,y40,y41,y42,y43,g,o,A3,c3,rfl,hg,hng,hJ,hat⟩
   have Pg:=hid hg
   have J1:=hid hJ
   have z1:=hid (hJ.kept z0.out ZcP (by omega))
   clear hg hJ
   by_cases hz:pz=0
   case neg=>
    have hzn:(pz !=0)=true:=bne_iff_ne.2 hz
    replace hat:=hid hat
    obtain rfl:mrs=[]:=by rw[eR.out,if_neg hz]
    replace hz:=hid hz
    clear eR eL eE
    go_wp2_with (first
     |((with_reducible refine Zaf rfl 24 _ rfl zTrC [] ?_ ?_ ?_);exact ZbU;rfl)
     |((with_reducible refine stW 6 39 (w.heap.size+1+1+1) 24 zTrC ?_ ?_ ?_ ?_ ?_);exact z1.out;exact Zah;rfl;exact Zat none 0 0 0;intro w7 hg7 hb7 hs7))
    exact Vy0 (Zk7 Tryz.results90 _ _ (w.heap.size+1+1+1) none 0 0 0 rfl hg7) rfl ⟨⟨[],0⟩,none,0,none,0,rfl,OwnR.nil _ _,OwnR.nil _ _,W0.out.trans (((J1.out.low hj hn).mono (by omega)).grown hb7 (by have:=Chg.size J1.out;have:=s0.out;omega) (fun k e=>by injection e with e;omega)),by first|exact if_neg hz.out|rfl|(rw[if_neg hz.out])⟩
   case pos=>
    subst hz
    obtain⟨hat,hmo,hal,hlo,hgr⟩:=hat rfl
    have e1:giveRs L ds++payRs box (giveAll L ds) xs=mrs:=by rw[eR.out,if_pos rfl]
    have e2:payAll box (giveAll L ds) xs=mL:=by rw[eL.out,if_pos rfl]
    rw[e1]at hat
    rw[e2]at hal
    clear eR eL eE e1 e2
    have a1:=hid hat
    obtain⟨R,rc,hR,hjb⟩:=hat.recs
    have hiO:=hid (show (Tryz.prog.info? 24).map (·.size)=some ([Value.slice A3 o.ns.length c3,.int .i64 o.root]).length from Zah)
    have hR1:=hid hR
    have c1:=(Zae (l:=[Value.slice R mrs.length rc]) hjb) 0 _ rfl
    replace c1:=hid c1
    replace hgr:=hid hgr
    replace hal:=hid hal
    clear hat hR hjb
    go_wp2_with fail
    refine wp_region_noPanic ?_
    refine wp_region_held_drew (S:=fun W=>Chg (fun b=>b=w.heap.size+1+1+1) V W) (by kernel_rfl) ?_ (fun hHeld=>?_)
    ·exact Chg.of_bel (Zao V)
    refine' tkM 0 rfl (fun _ h=>Zak (Zae (l:=[Value.slice A3 o.ns.length c3,.int .i64 o.root]) Pg.out) (fun hb=>h.block _ hb (by omega))) hut hiO.out ?_
    refine' tkP 1 rfl ?_
    refine' tkF 2 (fun W hSw=>(World.cell?_of_block (a:=⟨(w.heap.size+1+1+1+1),0,none⟩) (hSw.block _ (Vx5 _ _ c1.out) (by show ¬(w.heap.size+1+1+1+1)=w.heap.size+1+1+1;omega))).trans c1.out) rfl ?_
    simp only[sQ]
    refine rdH 3 rfl fun K hK=>?_
    refine Zaj rfl 24 (.tmp 6) (.tmp 41) rfl (w.heap.size+1+1+1) _ rfl rfl 24 zTrC z1.out Zah rfl (Zat A3 o.ns.length c3 o.root) ?_
    intro v3 d3 hG3
    refine hK.out _ _ (hHeld.trans ((Chg.of_grown hG3).mono (fun b _ e=>by injection e))) fun hHeld=>?_
    clear hK K
    try simp only[sQ]
    refine' tkW 4 5 ?_
    simp only[sQ]
    refine dnN ?_
    go_wp2
    exact Vy0 (Zk7 Tryz.results90 _ _ (w.heap.size+1+1+1) A3 o.ns.length c3 o.root rfl d3) rfl ⟨o,A3,c3,R,rc,rfl,OwnR.base (B:=(w.heap.size+1+1+1+1+1)) (OwnQ.chg (B0:=(w.heap.size+1+1+1+1+1)) (B:=(w.heap.size+1+1+1+1+1)) a1.out.own hHeld (fun b hb=>by omega) (fun b hb=>by omega)) (by omega),OwnR.base (B:=(w.heap.size+1+1+1+1+1)) (OwnQ.chg (B0:=(w.heap.size+1+1+1+1+1)) (B:=(w.heap.size+1+1+1+1+1)) hR1.out hHeld (fun b hb=>by omega) (fun b hb=>by omega)) (by omega),W0.out.trans (((J1.out.low hj hn).mono (by omega)).trans (hHeld.below (by have:=Chg.size J1.out;have:=s0.out;omega) (fun b hb=>by omega))),by first|exact⟨hmo,hal.out,hlo,hgr.out⟩|(rw[if_pos rfl];exact⟨hmo,hal.out,hlo,hgr.out⟩)⟩
def mayBE(t:Tr)(x:Hd)(d e:Nat):Int:=if mayA t=true then (if mayH x=true then (if (x.h==1073741824)=true then 8 else if decide (16<d)=true then 4 else if decide (16<e)=true then 4 else 0) else 8) else 8
theorem Zwh(t:Tr)(x:Hd)(ds:List Dp)(xs:List Tx)(box:Dg):applyE t x ds xs box=if mayBE t x ds.length xs.length=0 then madeE (allT t) ds xs box else mayBE t x ds.length xs.length:=by
 unfold applyE mayBE
 split
 ·split
  ·split
   ·rfl
   ·split
    ·rfl
    ·split
     ·rfl
     ·rfl
  ·rfl
 ·rfl
theorem Zw1{t:Tr}{x:Hd}{d e:Nat}(h:mayBE t x d e=0):mayA t=true∧mayH x=true∧d≤16∧e≤16:=by
 unfold mayBE at h
 split at h
 ·rename_i h1
  split at h
  ·rename_i h2
   split at h
   ·cases h
   ·split at h
    ·cases h
    ·rename_i h4
     split at h
     ·cases h
     ·rename_i h5
      simp only[decide_eq_true_eq]at h4 h5
      exact⟨h1,h2,by omega,by omega⟩
  ·cases h
 ·cases h
theorem Yf8(w:World)(A:Option Addr)(n c:Nat)(root:Int)(l m:List Value)(t u v:TypeId):
  BoxT (((w.alloc (.cells #[.slice A n c,.int .i64 root] t)).alloc (.cells l.toArray u)).alloc (.cells m.toArray v)) w.heap.size A n c root∧
  (((w.alloc (.cells #[.slice A n c,.int .i64 root] t)).alloc (.cells l.toArray u)).alloc (.cells m.toArray v)).rangeAt (w.heap.size+1) 0 l∧
  (((w.alloc (.cells #[.slice A n c,.int .i64 root] t)).alloc (.cells l.toArray u)).alloc (.cells m.toArray v)).rangeAt (w.heap.size+1+1) 0 m∧
  Below w.heap.size w (((w.alloc (.cells #[.slice A n c,.int .i64 root] t)).alloc (.cells l.toArray u)).alloc (.cells m.toArray v)):=by
 have h1:=BoxT.new w A n c root t
 have h2:=Zae (Vx0 (w.alloc (.cells #[.slice A n c,.int .i64 root] t)) (.cells l.toArray u))
 have h3:=Zae (Vx0 ((w.alloc (.cells #[.slice A n c,.int .i64 root] t)).alloc (.cells l.toArray u)) (.cells m.toArray v))
 simp only[Vx2]at h2 h3
 exact⟨(h1.bel (Zad _ _)).bel (Zad _ _),Zab (Zad _ _) h2,h3,Zag (Zag (Zad _ _) (Zad _ _)) (Zad _ _)⟩
theorem ZvS(F:Nat→Prop)(A:Option Addr)(c:Nat)(ns:List Nd)(root:Int)(x:Hd)(D:Option Addr)(d n:Nat)(X:Option Addr)(e m:Nat)(w:World)(hx:x.ok)(hr:Row F w A ns)(hl:ns.length≤50000)(hn:n≤1000)(hm9:m≤1000):
  Calls Tryz.prog 89 #[.agg #[.slice A ns.length c,.int .i64 root],.agg (hdC x).toArray,.agg #[.slice D n d,.slice X m e]] w fun r w'=>r=.returned (.int .i64 (mayBE ⟨ns,root⟩ x n m))∧Below w.heap.size w w':=by
 have hut:=Tryz.underlying24
 have huh:=Tryz.underlying51
 obtain⟨T0,N0,B0,W0⟩:=Yf8 w A ns.length c root (hdC x) [.slice D n d,.slice X m e] 24 51 35
 have hiT:=hid (show (Tryz.prog.info? 24).map (·.size)=some ([Value.slice A ns.length c,.int .i64 root]).length from Zah)
 have jx:=hid (Zbu x)
 have R0:=hid ((hr.mono (G:=fun b=>b<w.heap.size) fun b _ h=>h).bel W0)
 have hAc:=fun W hW=>ZcT (fun b=>b<w.heap.size) A c ns root W hW (by omega)
 have hHc:=hid (fun W=>Zdo x hx W)
 obtain⟨ma,hma⟩:∃v,mayA ⟨ns,root⟩=v:=⟨_,rfl⟩
 obtain⟨mh,hmh⟩:∃v,mayH x=v:=⟨_,rfl⟩
 obtain⟨q,hq⟩:∃v,(x.h==1073741824)=v:=⟨_,rfl⟩
 have hHc':=hHc.out
 unfold hdE at hHc'
 rw[hmh]at hHc'
 clear hHc
 unfold mayBE
 rw[hma]at hAc ⊢
 obtain⟨bd,hbd⟩:∃b,decide (16<n)=b:=⟨_,rfl⟩
 obtain⟨be,hbe⟩:∃b,decide (16<m)=b:=⟨_,rfl⟩
 rw[hmh,hq,hbd,hbe]
 have qd:decide ((n:Int)>16)=bd:=by rw[← hbd,decide_eq_decide];omega
 have qe:decide ((m:Int)>16)=be:=by rw[← hbe,decide_eq_decide];omega
 replace hbd:=hid hbd
 replace hbe:=hid hbe
 have hge:mh=true→decide (x.h≥1073741824)=q:=fun h=>by
  rw[h]at hmh
  unfold mayH at hmh
  have:=of_decide_eq_true hmh
  rw[← hq]
  by_cases e:x.h=1073741824
  ·rw[e];rfl
  ·rw[Vy1 (by omega),beq_eq_false_iff_ne.2 e]
 replace T0:=hid T0
 replace N0:=hid N0
 replace B0:=hid B0
 replace W0:=hid W0
 replace hge:=hid hge
 replace hAc:=hid hAc
 replace hHc:=hid hHc'
 clear hma hmh hq hr hHc'
 go_enter Tryz.func89,Tryz.ntmps89
 go_wp2_with ((with_reducible refine lDr T0.out.all hiT.out hut ?_))
 generalize ((w.alloc (.cells #[.slice A ns.length c,.int .i64 root] 24)).alloc (.cells (hdC x).toArray 51)).alloc (.cells #[Value.slice D n d,.slice X m e] 35)=w0 at *
 refine(hAc.out _ R0.out).mono ?_
 rintro r w1 ⟨rfl,hb⟩
 have N1:=hid (Zab hb N0.out)
 have B1:=hid (Zab hb B0.out)
 have T1:=hid (T0.out.bel hb)
 have W1:=hid (W0.out.trans (hb.mono W0.out.size))
 clear hb hAc N0 B0 T0 W0 R0
 cases ma with
 |false=>
  go_wp2
  go_ret
  exact⟨rfl,W1.out⟩
 |true=>
 go_wp2_with ((with_reducible refine lDr N1.out jx.out huh ?_))
 refine(hHc.out _).mono ?_
 rintro r w2 ⟨rfl,hb⟩
 have h2:=(BoxH.of (Zab hb N1.out)).h
 have B2:=hid (Zab hb B1.out)
 have T2:=hid (T1.out.bel hb)
 have W2:=hid (W1.out.trans (hb.mono W1.out.size))
 clear hb hHc N1 B1 T1 W1
 cases mh with
 |false=>
  clear h2
  go_wp2
  go_ret
  exact⟨rfl,W2.out⟩
 |true=>
 have hgq:=hge.out rfl
 clear hge
 cases q with
 |true=>
  go_wp2
  go_ret
  exact⟨rfl,W2.out⟩
 |false=>
 have d2:=B2.out 0 _ rfl
 have e2:=B2.out 1 _ rfl
 have t2:=T2.out.ns
 cases bd with
 |true=>
  go_wp2
  go_ret
  exact⟨rfl,W2.out⟩
 |false=>
  cases be with
  |true=>
   go_wp2
   go_ret
   exact⟨rfl,W2.out⟩
  |false=>
   have hd:¬16<n:=of_decide_eq_false hbd.out
   have he:¬16<m:=of_decide_eq_false hbe.out
   have w1':IntKind.i64.wrap (300 * (n:Int))=300 * (n:Int):=IntWalk.i64_in _ (by omega)
   have w2':IntKind.i64.wrap (260944-300 * (n:Int))=260944-300 * (n:Int):=IntWalk.i64_in _ (by omega)
   have w3':IntKind.i64.wrap (1200 * (m:Int))=1200 * (m:Int):=IntWalk.i64_in _ (by omega)
   have w4':IntKind.i64.wrap (260944-300 * (n:Int)-1200 * (m:Int))=260944-300 * (n:Int)-1200 * (m:Int):=IntWalk.i64_in _ (by omega)
   have gt':decide ((ns.length:Int)>260944-300 * (n:Int)-1200 * (m:Int))=false:=Vy1 (by omega)
   clear hd he
   go_wp2
   go_ret
   exact⟨rfl,W2.out⟩
theorem Zp3{fn:Func}{p q u v:Tmp}(h:fn.results=#[.cell p 24,.cell q 51,.tmp u,.tmp v])(tmps:Array Value)(w:World)(g k:Nat)(A:Option Addr)(n c:Nat)(root:Int)(x:Hd)(e1:tmps.getD p undef=.pointer (some ⟨g,0,none⟩))(e2:tmps.getD q undef=.pointer (some ⟨k,0,none⟩))
  (hg:w.heap[g]? =some (.cells #[.slice A n c,.int .i64 root] 24 (0,0))) (hk:w.heap[k]? =some (.cells (hdC x).toArray 51 (0,0))):(results fn tmps).run Tryz.prog w=.ok (.tuple #[.agg #[.slice A n c,.int .i64 root],.agg (hdC x).toArray,tmps.getD u undef,tmps.getD v undef]) w:=by
 have h2:=run_loadVar_mid (P:=Tryz.prog) w g 0 24 [.slice A n c,.int .i64 root] _ (Zae (l:=[Value.slice A n c,.int .i64 root]) hg) Tryz.underlying24 rfl Zah
 have h3:=run_loadVar_mid (P:=Tryz.prog) w k 0 51 (hdC x) _ (Zae (l:=hdC x) hk) Tryz.underlying51 rfl (Zbu x)
 have e3:tmps[p]?.getD undef=.pointer (some ⟨g,0,none⟩):=by simpa using e1
 have e4:tmps[q]?.getD undef=.pointer (some ⟨k,0,none⟩):=by simpa using e2
 simp only[results,h]
 simp[Sem.run_bind,Result.andThen,e3,e4,asAddr,Sem.run_pure,h2,h3]
theorem Yf3(w:World)(A:Option Addr)(n c:Nat)(root:Int)(l m q:List Value)(t u v x y z:TypeId):
  let W:=(((((w.alloc (.cells #[.slice A n c,.int .i64 root] t)).alloc (.cells l.toArray u)).alloc (.cells m.toArray v)).alloc (.cells q.toArray x)).alloc (.cells zTrC y)).alloc (.cells zHdC z)
  W.rangeAt w.heap.size 0 [.slice A n c,.int .i64 root]∧W.rangeAt (w.heap.size+1) 0 l∧W.rangeAt (w.heap.size+1+1) 0 m∧W.rangeAt (w.heap.size+1+1+1) 0 q∧W.heap[w.heap.size+1+1+1+1]? =some (.cells zTrC y (0,0))∧W.heap[w.heap.size+1+1+1+1+1]? =some (.cells zHdC z (0,0))∧Below w.heap.size w W:=by
 intro W
 have h1:=Zae (l:=[Value.slice A n c,.int .i64 root]) (Vx0 w (.cells #[.slice A n c,.int .i64 root] t))
 have h2:=Zae (Vx0 (w.alloc (.cells #[.slice A n c,.int .i64 root] t)) (.cells l.toArray u))
 have h3:=Zae (Vx0 ((w.alloc (.cells #[.slice A n c,.int .i64 root] t)).alloc (.cells l.toArray u)) (.cells m.toArray v))
 have h4:=Zae (Vx0 (((w.alloc (.cells #[.slice A n c,.int .i64 root] t)).alloc (.cells l.toArray u)).alloc (.cells m.toArray v)) (.cells q.toArray x))
 have h5:=Vx0 ((((w.alloc (.cells #[.slice A n c,.int .i64 root] t)).alloc (.cells l.toArray u)).alloc (.cells m.toArray v)).alloc (.cells q.toArray x)) (.cells zTrC y)
 have h6:=Vx0 (((((w.alloc (.cells #[.slice A n c,.int .i64 root] t)).alloc (.cells l.toArray u)).alloc (.cells m.toArray v)).alloc (.cells q.toArray x)).alloc (.cells zTrC y)) (.cells zHdC z)
 have h7:=(Zad (((((w.alloc (.cells #[.slice A n c,.int .i64 root] t)).alloc (.cells l.toArray u)).alloc (.cells m.toArray v)).alloc (.cells q.toArray x)).alloc (.cells zTrC y)) (.cells zHdC z)).block _ (block_lt h5)
 simp only[Vx2]at h2 h3 h4 h5 h6 h7
 exact⟨Zab (Zad _ _) (Zab (Zad _ _) (Zab (Zad _ _) (Zab (Zad _ _) (Zab (Zad _ _) h1)))),Zab (Zad _ _) (Zab (Zad _ _) (Zab (Zad _ _) (Zab (Zad _ _) h2))),Zab (Zad _ _) (Zab (Zad _ _) (Zab (Zad _ _) h3)),Zab (Zad _ _) (Zab (Zad _ _) h4),h7.trans h5,h6,
  Zag (Zag (Zag (Zag (Zag (Zad _ _) (Zad _ _)) (Zad _ _)) (Zad _ _)) (Zad _ _)) (Zad _ _)⟩
theorem Zqt(F Fd Fx:Nat→Prop)(A:Option Addr)(c:Nat)(ns:List Nd)(root:Int)(x:Hd)(D:Option Addr)(d:Nat)(ds:List Dp)(X:Option Addr)(e:Nat)(xs:List Tx)(box:Dg)(w:World)(hx:x.ok)
  (hr:Row F w A ns) (hc:ns.length≤50000) (hD:Row Fd w D ds) (hX:Row Fx w X xs) (ld:ds.length≤1000) (lx:xs.length≤1000) (hT:Tab w):
  Calls Tryz.prog 40 #[.agg #[.slice A ns.length c,.int .i64 root],.agg (hdC x).toArray,.agg #[.slice D ds.length d,.slice X xs.length e],.agg (box.1.map bv).toArray] w (BkPost ⟨ns,root⟩ x ds xs box w):=by
 have hut:=Tryz.underlying24
 have huh:=Tryz.underlying51
 have hub:=Tryz.underlying35
 have hu:=Tryz.underlying37
 obtain⟨T0,N0,B0,S0,z0,y0,W0⟩:=Yf3 w A ns.length c root (hdC x) [.slice D ds.length d,.slice X xs.length e] (box.1.map bv) 24 51 35 37 24 51
 have hiT:=hid (show (Tryz.prog.info? 24).map (·.size)=some ([Value.slice A ns.length c,.int .i64 root]).length from Zah)
 have hiS:=hid (Zaz box)
 have jx:=hid (Zbu x)
 have jBd:=hid (show (Tryz.prog.info? 35).map (·.size)=some ([Value.slice D ds.length d,.slice X xs.length e]).length from ZfA _ _)
 have R0:=hid ((hr.mono (G:=fun b=>b<w.heap.size) fun b _ h=>h).bel W0)
 have P0:=hid ((hD.mono (G:=fun b=>b<w.heap.size) fun b _ h=>h).bel W0)
 have Q0:=hid ((hX.mono (G:=fun b=>b<w.heap.size) fun b _ h=>h).bel W0)
 have H0:=hid (hT.bel W0 hT.low)
 have hlow:=hid hT.low
 have hMy:=fun W hW=>ZvS (fun b=>b<w.heap.size) A c ns root x D d ds.length X e xs.length W hx hW hc ld lx
 obtain⟨mz,hmz⟩:∃v,mayBE ⟨ns,root⟩ x ds.length xs.length=v:=⟨_,rfl⟩
 rw[hmz]at hMy
 obtain⟨pz,hpz⟩:∃v,applyE ⟨ns,root⟩ x ds xs box=v:=⟨_,rfl⟩
 have hE:pz=if mz=0 then madeE (allT ⟨ns,root⟩) ds xs box else mz:=by rw[← hpz,Zwh,hmz]
 obtain⟨ph,hph⟩:∃v,applyH ⟨ns,root⟩ x ds xs box=v:=⟨_,rfl⟩
 obtain⟨pr,hpr⟩:∃v,applyR ⟨ns,root⟩ x ds xs box=v:=⟨_,rfl⟩
 have eH:ph=if pz=0 then headB x (madeL (allT ⟨ns,root⟩) ds xs box) (madeRs (allT ⟨ns,root⟩) ds xs box) else zH:=by rw[← hph,←hpz];rfl
 have eR:pr=if pz=0 then madeRs (allT ⟨ns,root⟩) ds xs box else []:=by rw[← hpr,←hpz];rfl
 have hok:∀o,(if pz=0 then (mayA o=true∧allT o=madeL (allT ⟨ns,root⟩) ds xs box∧o.ns.length≤ns.length+1200 * ds.length+1200 * xs.length∧∃r,o.ns=ns++r) else o=⟨[],0⟩)→ApplyOk ⟨ns,root⟩ x ds xs box o:=fun o ho=>by
  unfold ApplyOk applyL
  rw[hpz]
  by_cases h0:pz=0
  ·rw[if_pos h0]at ho ⊢
   rw[if_pos h0]
   exact ho
  ·rw[if_neg h0]at ho ⊢
   exact ho
 unfold BkPost
 rw[hpz,hph,hpr]
 replace hMy:=hid hMy
 replace hE:=hid hE
 replace eH:=hid eH
 replace eR:=hid eR
 replace hmz:=hid hmz
 replace hok:=hid hok
 replace T0:=hid (BoxT.of T0)
 replace N0:=hid N0
 replace B0:=hid B0
 replace S0:=hid S0
 replace z0:=hid z0
 replace y0:=hid y0
 replace W0:=hid W0
 clear hr hD hX hT hpz hph hpr
 go_enter Tryz.func40,Tryz.ntmps40
 go_wp2_with (first
  |(with_reducible refine Zac rfl 24 rfl zTrC Zas ?_)
  |(with_reducible refine Zac rfl 51 rfl zHdC Za9 ?_)
  |(with_reducible refine lDr T0.out.all hiT.out hut ?_)
  |(with_reducible refine lDr N0.out jx.out huh ?_)
  |(with_reducible refine lDr B0.out jBd.out hub ?_))
 generalize (((((w.alloc (.cells #[.slice A ns.length c,.int .i64 root] 24)).alloc (.cells (hdC x).toArray 51)).alloc (.cells #[Value.slice D ds.length d,.slice X xs.length e] 35)).alloc (.cells (box.1.map bv).toArray 37)).alloc (.cells zTrC 24)).alloc (.cells zHdC 51)=w0 at *
 refine(hMy.out _ R0.out).mono ?_
 rintro e w1 ⟨rfl,hb⟩
 have T1:=hid (T0.out.bel hb)
 have N1:=hid (Zab hb N0.out)
 have B1:=hid (Zab hb B0.out)
 have S1:=hid (Zab hb S0.out)
 have z1:=hid ((hb.block _ (block_lt z0.out)).trans z0.out)
 have y1:=hid ((hb.block _ (block_lt y0.out)).trans y0.out)
 have R1:=hid (R0.out.bel hb)
 have P1:=hid (P0.out.bel hb)
 have Q1:=hid (Q0.out.bel hb)
 have H1:=hid (H0.out.bel hb (Vx4 hlow.out W0.out.size))
 have W1:=hid (W0.out.trans (hb.mono W0.out.size))
 clear T0 N0 B0 S0 z0 y0 R0 P0 Q0 H0 W0
 clear hb hMy
 by_cases hz:mz=0
 case neg=>
  have hzn:(mz !=0)=true:=bne_iff_ne.2 hz
  obtain rfl:pz=mz:=by rw[hE.out,if_neg hz]
  obtain rfl:ph=zH:=by rw[eH.out,if_neg hz]
  obtain rfl:pr=[]:=by rw[eR.out,if_neg hz]
  replace hz:=hid hz
  clear eH eR hE hmz
  go_wp2_with (first
   |((with_reducible refine Zaf rfl 24 _ rfl zTrC [] ?_ ?_ ?_);exact ZbU;rfl)
   |((with_reducible refine Zaf rfl 51 _ rfl zHdC [] ?_ ?_ ?_);exact Zcc;rfl)
   |((with_reducible refine stW 8 19 (w.heap.size+1+1+1+1) 24 zTrC ?_ ?_ ?_ ?_ ?_);exact z1.out;exact Zah;rfl;exact Zat none 0 0 0;intro w8 hg8 hb8 hs8;have y8:=hid ((hb8.block _ (block_lt y1.out) (by simp)).trans y1.out))
   |((with_reducible refine stW 9 20 (w.heap.size+1+1+1+1+1) 51 zHdC ?_ ?_ ?_ ?_ ?_);exact y8.out;exact Zbg zH;exact Zbw zH;exact ZbM zH;intro w9 hg9 hb9 hs9))
  exact Vy0 (Zp3 Tryz.results40 _ _ (w.heap.size+1+1+1+1) (w.heap.size+1+1+1+1+1) none 0 0 0 zH rfl rfl ((hb9.block _ (block_lt hg8) (by simp)).trans hg8) hg9) rfl ⟨⟨[],0⟩,none,0,none,0,rfl,OwnR.nil _ _,OwnR.nil _ _,((W1.out.grown hb8 W1.out.size (fun k e=>by injection e with e;omega)).grown hb9 (Vx1 W1.out.size hb8.size) (fun k e=>by injection e with e;omega)),hok.out _ (by rw[if_neg hz.out])⟩
 case pos=>
  subst hz
  obtain⟨hma,hmh,hld,hlx⟩:=Zw1 hmz.out
  have hE':=hE.out
  rw[if_pos rfl]at hE'
  have hAp:=fun W hW hD hX hT=>ZnS (fun b=>b<w.heap.size) (fun b=>b<w.heap.size) (fun b=>b<w.heap.size) A c ns root D d ds X e xs box W hW hma hc hD hX hld hlx hT
  have hHd:=fun G (o:Tr) A2 c2 R rc W (hmo:mayT o=true) (hlo:o.ns.length≤1000000) hW (hR:Row G W R (madeRs (allT ⟨ns,root⟩) ds xs box)) hT=>ZsT (fun b=>w.heap.size≤b) G x A2 c2 o.ns o.root R rc (madeRs (allT ⟨ns,root⟩) ds xs box) W hmh hW hlo hmo hR (ZuW _ _ _ _) (by have:=ZoM (allT ⟨ns,root⟩) ds xs box;omega) hT
  unfold AppliedOk at hAp
  rw[← hE']at hAp
  generalize madeRs (allT ⟨ns,root⟩) ds xs box=mr at *
  generalize madeL (allT ⟨ns,root⟩) ds xs box=mL at *
  clear hE hE' hmz
  replace hAp:=hid hAp
  replace hHd:=hid hHd
  go_wp2_with (first
   |(with_reducible refine lDr T1.out.all hiT.out hut ?_)
   |(with_reducible refine lDr B1.out jBd.out hub ?_)
   |(with_reducible refine lDr S1.out hiS.out hu ?_))
  refine(hAp.out _ R1.out P1.out Q1.out H1.out).mono ?_
  have s1:=hid (show (w.heap.size+1+1+1+1+1)<w1.heap.size from block_lt y1.out)
  rintro r w2 ⟨⟨na,ra⟩,ad,cd,Rr,rq,rfl,ho,hq,hb,hif⟩
  dsimp only at ho hif ⊢
  have T2:=hid (T1.out.bel hb)
  have N2:=hid (Zab hb N1.out)
  have B2:=hid (Zab hb B1.out)
  have S2:=hid (Zab hb S1.out)
  have z2:=hid ((hb.block _ (block_lt z1.out)).trans z1.out)
  have y2:=hid ((hb.block _ (block_lt y1.out)).trans y1.out)
  have R2:=hid (R1.out.bel hb)
  have P2:=hid (P1.out.bel hb)
  have Q2:=hid (Q1.out.bel hb)
  have H2:=hid (H1.out.bel hb (Vx4 hlow.out W1.out.size))
  have W2:=hid (W1.out.trans (hb.mono W1.out.size))
  clear T1 N1 B1 S1 z1 y1 R1 P1 Q1 H1 W1
  have E2:=hid ho
  have Y2:=hid hq
  replace hif:=hid hif
  clear hb ho hq hAp
  clear T2
  clear B2
  clear S2
  clear R2
  clear P2
  clear Q2
  by_cases hz:pz=0
  case neg=>
   have hzn:(pz !=0)=true:=bne_iff_ne.2 hz
   obtain rfl:ph=zH:=by rw[eH.out,if_neg hz]
   obtain rfl:pr=[]:=by rw[eR.out,if_neg hz]
   replace hz:=hid hz
   clear eH eR hif hHd
   go_wp2_with (first
    |((with_reducible refine stW 8 27 (w.heap.size+1+1+1+1) 24 zTrC ?_ ?_ ?_ ?_ ?_);exact z2.out;exact Zah;rfl;exact Zat ad na.length cd ra;intro w3 hg3 hb3 hs3;have z3:=hid hg3;have y3:=hid ((hb3.block _ (block_lt y2.out) (by simp)).trans y2.out);have E3:=hid (OwnQ.keptAtP E2.out hb3 (by have:=s1.out;omega) (by have:=s1.out;omega));have Y3:=hid (OwnQ.keptAtP Y2.out hb3 (by have:=s1.out;omega) (by have:=s1.out;omega));have N3:=hid (Zak N2.out (fun h=>hb3.block _ h (fun e=>by injection e with e;omega)));have H3:=hid (H2.out.bel ((Chg.of_grown hb3).below (B:=w.heap.size) W2.out.size (fun b hb e=>by injection e with e;omega)) hlow.out);have W3:=hid (W2.out.grown hb3 W2.out.size (fun k e=>by injection e with e;omega));clear hg3 hb3 hs3 z2 y2 E2 Y2 N2 H2 W2)
    |((with_reducible refine Zaf rfl 24 _ rfl zTrC [] ?_ ?_ ?_);exact ZbU;rfl)
    |((with_reducible refine Zaf rfl 51 _ rfl zHdC [] ?_ ?_ ?_);exact Zcc;rfl)
    |((with_reducible refine wpList_store_row rfl 24 (.tmp 8) (.tmp 32) rfl (w.heap.size+1+1+1+1) _ rfl rfl 24 #[.slice ad na.length cd,.int .i64 ra] ?_ ?_ ?_ ?_ ?_);exact z3.out;exact Zah;rfl;exact Zat none 0 0 0;intro w8 hg8 hb8 hs8;have y8:=hid ((hb8.block _ (block_lt y3.out) (by simp)).trans y3.out))
    |((with_reducible refine stW 9 33 (w.heap.size+1+1+1+1+1) 51 zHdC ?_ ?_ ?_ ?_ ?_);exact y8.out;exact Zbg zH;exact Zbw zH;exact ZbM zH;intro w9 hg9 hb9 hs9))
   exact Vy0 (Zp3 Tryz.results40 _ _ (w.heap.size+1+1+1+1) (w.heap.size+1+1+1+1+1) none 0 0 0 zH rfl rfl ((hb9.block _ (block_lt hg8) (by simp)).trans hg8) hg9) rfl ⟨⟨[],0⟩,none,0,none,0,rfl,OwnR.nil _ _,OwnR.nil _ _,((W3.out.grown hb8 W3.out.size (fun k e=>by injection e with e;omega)).grown hb9 (Vx1 W3.out.size hb8.size) (fun k e=>by injection e with e;omega)),hok.out _ (by rw[if_neg hz.out])⟩
  case pos=>
   subst hz
   obtain⟨hmo,hal,hlo,hgr⟩:mayA ⟨na,ra⟩=true∧allT ⟨na,ra⟩=mL∧na.length≤ns.length+1200 * ds.length+1200 * xs.length∧∃r,na=ns++r:=by
    have:=hif.out
    rw[if_pos rfl]at this
    exact this
   have e1:headB x mL mr=ph:=by rw[eH.out,if_pos rfl]
   obtain rfl:pr=mr:=by rw[eR.out,if_pos rfl]
   have hok2:=hid (hok.out ⟨na,ra⟩ (by rw[if_pos rfl];exact⟨hmo,hal,hlo,hgr⟩))
   have hHe:=fun G R rc W hW (hR:Row G W R pr) hT=>hHd.out G ⟨na,ra⟩ ad cd R rc W (Zft hmo).1 (by dsimp only;omega) hW hR hT
   rw[hal,e1]at hHe
   dsimp only at hHe
   replace hHe:=hid hHe
   have hiE:=hid (show (Tryz.prog.info? 24).map (·.size)=some ([Value.slice ad na.length cd,.int .i64 ra]).length from Zah)
   have aH:=hid (Zbg ph)
   have zHh:=hid (Zbw ph)
   have nH:=hid (ZbM ph)
   clear hif hHd hok hmo hal hlo hgr eH eR hmh hma
   go_wp2_with (((with_reducible refine stW 8 27 (w.heap.size+1+1+1+1) 24 zTrC ?_ ?_ ?_ ?_ ?_);exact z2.out;exact Zah;rfl;exact Zat ad na.length cd ra;intro w3 hg3 hb3 hs3;have z3:=hid hg3;have y3:=hid ((hb3.block _ (block_lt y2.out) (by simp)).trans y2.out);have E3:=hid (OwnQ.keptAtP E2.out hb3 (by have:=s1.out;omega) (by have:=s1.out;omega));have Y3:=hid (OwnQ.keptAtP Y2.out hb3 (by have:=s1.out;omega) (by have:=s1.out;omega));have N3:=hid (Zak N2.out (fun h=>hb3.block _ h (fun e=>by injection e with e;omega)));have H3:=hid (H2.out.bel ((Chg.of_grown hb3).below (B:=w.heap.size) W2.out.size (fun b hb e=>by injection e with e;omega)) hlow.out);have W3:=hid (W2.out.grown hb3 W2.out.size (fun k e=>by injection e with e;omega));clear hg3 hb3 hs3 z2 y2 E2 Y2 N2 H2 W2))
   refine wp_region_noPanic ?_
   refine wp_region_held_drew (S:=fun W=>Chg (fun b=>b=(w.heap.size+1+1+1+1)∨b=(w.heap.size+1+1+1+1+1)) w3 W∧W.heap[(w.heap.size+1+1+1+1)]? =some (.cells #[.slice ad na.length cd,.int .i64 ra] 24 (0,0))) (by kernel_rfl) ?_ (fun hHeld=>?_)
   ·exact⟨Chg.of_bel (Zao w3),z3.out⟩
   refine' tkM 0 rfl (fun _ h=>Zae (l:=[Value.slice ad na.length cd,.int .i64 ra]) h.2) hut hiE.out ?_
   refine' tkM 1 rfl (fun _ h=>Zak N3.out (fun hb=>h.1.block _ hb (by omega))) huh jx.out ?_
   refine' tkM 2 rfl (fun _ h=>Zae (l:=[Value.slice ad na.length cd,.int .i64 ra]) h.2) hut hiE.out ?_
   refine' tkP 3 rfl ?_
   simp only[sQ]
   refine' tkP 5 rfl ?_
   simp only[sQ]
   refine rdH 4 rfl fun K hK=>?_
   go_simp
   refine(hHe.out _ Rr rq _ (((OwnR.row E3.out).mono (fun b _ hb=>by have:=s1.out;omega)).bel (Zao w3)) ((OwnR.row Y3.out).bel (Zao w3)) (H3.out.bel (hHeld.1.below (B:=w.heap.size) W3.out.size (fun b hb=>by omega)) hlow.out)).mono ?_
   rintro e v4 ⟨rfl,hB4⟩
   have z4:=hid ((hB4.block _ (block_lt (show w3.drew.heap[(w.heap.size+1+1+1+1)]? =_ from z3.out))).trans z3.out)
   have y4:=hid ((hB4.block _ (block_lt (show w3.drew.heap[(w.heap.size+1+1+1+1+1)]? =_ from y3.out))).trans y3.out)
   have E4:=hid ((E3.out.bel (Zao w3)).bel hB4)
   have Y4:=hid ((Y3.out.bel (Zao w3)).bel hB4)
   go_wp2_with fail
   refine hK.out _ _ (⟨hHeld.1.trans (Chg.of_bel hB4),z4.out⟩) fun hHeld=>?_
   clear hK K
   try simp only[sQ]
   refine rdH 6 rfl fun K hK=>?_
   refine Zaj rfl 24 (.tmp 8) (.tmp 35) rfl (w.heap.size+1+1+1+1) _ rfl rfl 24 #[.slice ad na.length cd,.int .i64 ra] z4.out Zah rfl (Zat ad na.length cd ra) ?_
   intro v6 d6 hG6
   have y6:=hid ((hG6.block _ (block_lt y4.out) (by simp)).trans y4.out)
   have E6:=hid (OwnQ.keptAtP E4.out hG6 (by have:=s1.out;omega) (by have:=s1.out;omega))
   have Y6:=hid (OwnQ.keptAtP Y4.out hG6 (by have:=s1.out;omega) (by have:=s1.out;omega))
   refine hK.out _ _ (⟨hHeld.1.trans ((Chg.of_grown hG6).mono (fun b _ e=>.inl (by injection e))),d6⟩) fun hHeld=>?_
   clear hK K
   try simp only[sQ]
   refine rdH 7 rfl fun K hK=>?_
   refine Zaj rfl 51 (.tmp 9) (.tmp 39) rfl (w.heap.size+1+1+1+1+1) _ rfl rfl 51 zHdC y6.out aH.out zHh.out nH.out ?_
   intro v7 d7 hG7
   have z7:=hid ((hG7.block _ (block_lt d6) (by simp)).trans d6)
   have E7:=hid (OwnQ.keptAtP E6.out hG7 (by have:=s1.out;omega) (by have:=s1.out;omega))
   have Y7:=hid (OwnQ.keptAtP Y6.out hG7 (by have:=s1.out;omega) (by have:=s1.out;omega))
   refine hK.out _ _ (⟨hHeld.1.trans ((Chg.of_grown hG7).mono (fun b _ e=>.inr (by injection e))),z7.out⟩) fun hHeld=>?_
   clear hK K
   try simp only[sQ]
   refine' tkW 8 9 ?_
   simp only[sQ]
   refine dnN ?_
   go_wp2
   exact Vy0 (Zp3 Tryz.results40 _ _ (w.heap.size+1+1+1+1) (w.heap.size+1+1+1+1+1) ad na.length cd ra ph rfl rfl z7.out d7) rfl ⟨⟨na,ra⟩,ad,cd,Rr,rq,rfl,OwnR.base E7.out (by have:=s1.out;omega),OwnR.base Y7.out (by have:=s1.out;omega),W3.out.trans (hHeld.1.below W3.out.size (fun b hb=>by omega)),hok2.out⟩
theorem Zd6(F Fd Fx:Nat→Prop)(A:Option Addr)(c:Nat)(ns:List Nd)(root:Int)(x:Hd)(D:Option Addr)(d:Nat)(ds:List Dp)(X:Option Addr)(e:Nat)(xs:List Tx)(box:Dg)(w:World)(hx:x.ok)
  (hr:Row F w A ns) (hc:ns.length≤50000) (hD:Row Fd w D ds) (hX:Row Fx w X xs) (ld:ds.length≤1000) (lx:xs.length≤1000) (hT:Tab w)
  (z:Int) (H:Hd) (rs:List Rc) (P:Tr→Prop) (h1:applyE ⟨ns,root⟩ x ds xs box=z) (h2:applyH ⟨ns,root⟩ x ds xs box=H) (h3:applyR ⟨ns,root⟩ x ds xs box=rs) (h4:∀o,ApplyOk ⟨ns,root⟩ x ds xs box o→P o):
  Calls Tryz.prog 40 #[.agg #[.slice A ns.length c,.int .i64 root],.agg (hdC x).toArray,.agg #[.slice D ds.length d,.slice X xs.length e],.agg (box.1.map bv).toArray] w (BkQ z H rs P w):=by
 subst h1 h2 h3
 refine(Zqt F Fd Fx A c ns root x D d ds X e xs box w hx hr hc hD hX ld lx hT).mono fun e w' h=>?_
 obtain⟨o,A',c',R,rc,k1,k2,k3,k4,k5⟩:=h
 exact⟨o,A',c',R,rc,k1,k2,k3,k4,h4 o k5⟩
end Go.Proofs.YtnnclggeifnomaaGreatDoor
