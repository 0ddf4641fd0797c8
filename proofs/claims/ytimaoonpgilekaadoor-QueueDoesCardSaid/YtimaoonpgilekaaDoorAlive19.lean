import Derived.Test.YtimaoonpgilekaaDoorQuE
import Derived.Test.YtimaoonpgilekaaDoorQuS
import Derived.Test.YtimaoonpgilekaaDoorRef19a
set_option linter.all false
namespace Go.Proofs.YtimaoonpgilekaaDoor
open Go.RowKit
set_option maxRecDepth 100000
theorem Ypp(xs:List Tx):((xs.map txC).flatten).length=xs.length * 99:=by
 induction xs with
 |nil=>rfl
 |cons x r ih=>simp only[List.map_cons,List.flatten_cons,Vx3,ZgR,ih,List.length_cons];omega
theorem Yqj(xs:List Tx)(hok:∀x∈xs,x.ok)(hl:xs.length≤1000)(w:World)(E:TypeId):OwnR E (w.alloc (.cells ((xs.map txC).flatten).toArray E)) w.heap.size (some ⟨w.heap.size,0,none⟩) xs.length xs:=by
 have hE:Enc.size Tx=99:=rfl
 refine⟨fun _=>False,⟨xs.map txC,by simp,⟨by rw[Ypp,hE],.inr ⟨w.heap.size,xs.length,_,rfl,Vx8 _,Vx0 _ _,Vx8 _,by unfold maxLen;omega,by rw[Vx7,Ypp,hE],by rw[List.take_of_length_le];rw[Ypp,hE];exact Vx8 _⟩⟩,?_,fun _ _ h=>h⟩,fun b h=>h.elim⟩
 intro j x vs hx hv
 rw[List.getElem?_map,hx]at hv
 injection hv with hv
 subst hv
 exact YoS x (hok x (List.mem_of_getElem? hx))
theorem Ypc{w:World}{ops:Array Oper}{rest:List Oper}{o:Oper}{a:Act}{Q:Exit→Act→World→Prop}(hg:Region.wanted o (yielded ops a.tmps)=true)(n:Nat)(parts:Array (Nat×Operand))(hop:o.op=.buildSlice 24 n parts)(xs:List Tx)(vs:List Value)(hvs:vs=xs.map fun x=>Value.agg (txC x).toArray)(hn:xs.length=n)(h0:0<n)(hsm:n≤1000)(hok:∀x∈xs,x.ok)
  (hp:parts.toList.map (fun (i,x)=>(i,a.eval x))=(vs.zipIdx 0).map fun x=>(x.2,x.1))
  (hK:∀g w',OwnR 33 w' w.heap.size (some ⟨g,0,none⟩) n xs→Below w.heap.size w w'→wpList Tryd.prog ops Q rest (a.put o.dst (.slice (some ⟨g,0,none⟩) n n)) w'):wpList Tryd.prog ops Q (o::rest) a w:=by
 subst hvs
 have h:=Yqj xs hok (by omega) w 33
 rw[hn]at h
 refine wpList_step fun _ hK2=>?_
 rw[if_pos hg]
 have he:(parts.map fun (i,x)=>(i,a.eval x))=(((xs.map fun x=>Value.agg (txC x).toArray).zipIdx 0).map fun x=>(x.2,x.1)).toArray:=by
  apply Array.ext'
  rw[Array.toList_map,hp]
 unfold Oper.wp execOp
 simp only[hop,he,Sem.run_bind,Zfg slotTxQ n (xs.map txC) (by rw[Vx6];exact hn) h0 (by have hE:Enc.size Tx=99:=rfl;rw[hE];omega) (by intro cs hcs;obtain⟨x,-,rfl⟩:=List.mem_map.1 hcs;exact ZgR x) (xs.map fun x=>Value.agg (txC x).toArray) (by rw[List.map_map,List.map_map];rfl) w,Result.andThen_ok]
 exact hK2 _ _ (hK _ _ h (Zad _ _))
theorem Yqd{xs:List Tx}{n j:Nat}(hj:j<xs.length)(h:hitX (xs.take j) n=none)(h2:xs[j].n=n):hitX xs n=some xs[j]:=by
 unfold hitX at h ⊢
 have e:xs=xs.take j++xs[j]::xs.drop (j+1):=by rw[← List.drop_eq_getElem_cons hj,List.take_append_drop]
 conv=>lhs;rw[e]
 rw[List.find?_append,h,Option.none_or,List.find?_cons,Vy2 h2]
theorem Yqe{xs:List Tx}{n j:Nat}(hj:j<xs.length)(h:hitX (xs.take j) n=none)(h2:¬xs[j].n=n):hitX (xs.take (j+1)) n=none:=by
 unfold hitX at h ⊢
 rw[Vy5 hj,List.find?_append,h,Option.none_or,List.find?_cons,Vy1 h2]
 rfl
theorem YpD{F:Nat→Prop}{w:World}{D:Option Addr}{xs:List Tx}(h:Row F w D xs){j:Nat}(hj:j<xs.length):∃b o,D=some ⟨b,o,none⟩∧w.rangeAt b (o+j * 99) (txC xs[j])∧w.cell? ⟨b,o+j * 99+64,none⟩=some (.int .u64 (xs[j].n:Int))∧xs[j].ok:=by
 obtain⟨b,o,h1,h2,h3⟩:=Yoa h hj
 refine⟨b,o,h1,h2,h2 64 _ ?_,h3⟩
 have e:txC xs[j]=(xs[j].p.1.map bv++xs[j].t.1.map bv)++(.int .u64 (xs[j].n:Int)::([.int .u64 (xs[j].a:Int),.int .u64 (xs[j].f:Int)]++xs[j].s.1.map bv)):=by simp[txC,txS]
 rw[e,List.getElem?_append_right (by simp[xs[j].p.2,xs[j].t.2])]
 simp[xs[j].p.2,xs[j].t.2]
theorem Row.any{α:Type}[Enc α]{F:Nat→Prop}{w:World}{A:Option Addr}{xs:List α}(h:Row F w A xs):Row (fun _=>True) w A xs:=h.mono fun _ _ _=>trivial
end Go.Proofs.YtimaoonpgilekaaDoor
