import Derived.Test.YtnnclggeifnomaaGreatDoorShaR
import Derived.Test.YtnnclggeifnomaaGreatDoorRf6
import Derived.Test.YtnnclggeifnomaaGreatDoorInW
set_option maxRecDepth 100000
set_option linter.all false
namespace Go.Proofs.YtnnclggeifnomaaGreatDoor
open Go.RowKit
theorem slotU8k:Slot Tryz.prog UInt8 41 5 (.int .u8 0) 1 where
 under:=Tryz.underlying41
 info:=by kernel_rfl
 zero:=by decide +kernel
 pos:=by decide
theorem Zgv{fn:Func}{p u:Tmp}(h:fn.results=#[.cell p 130,.tmp u])(tmps:Array Value)(w:World)(g:Nat)(a:Ac)(e1:tmps.getD p undef=.pointer (some ⟨g,0,none⟩))
  (hg:w.heap[g]? =some (.cells (acC a).toArray 130 (0,0))):(results fn tmps).run Tryz.prog w=.ok (.tuple #[.agg (acC a).toArray,tmps.getD u undef]) w:=by
 have h2:=run_loadVar_mid (P:=Tryz.prog) w g 0 130 (acC a) _ (Zae hg) Tryz.underlying130 rfl ZaM
 rw[results_cell_tmp h,e1]
 simp only[asAddr,Sem.run_pure,Result.andThen_ok,h2]
def keyD(p:Dg):Dg:=⟨sha256 (tagB 3 [p.1]),S8.bytes_len _⟩
def mayA(t:Tr):Bool:=mayT t&&heldP (allT t)
theorem ZeH{t:Tr}(h:mayT t=true)(hc:t.ns.length≤1000000):(allT t).length≤1000000:=Vx1 (Zbp h).2.2.1 hc
def getA(t:Tr)(k:Dg):Ac:=if mayA t=true then inA (allT t) k else ac0
def itA:List Pr→List (Ac×Int)
 |[]=>[]
 |p::ps=>if acE p.v=0 then (acOf p.v,0)::itA ps else [(ac0,8)]
def seqA(t:Tr):List (Ac×Int):=if mayT t=true then itA (allT t) else [(ac0,8)]
theorem Zpz{ps:List Pr}(h:heldP ps=true):itA ps=ps.map fun p=>(acOf p.v,0):=by
 induction ps with
 |nil=>rfl
 |cons p ps ih=>
  rw[Zc5]at h
  unfold itA
  rw[if_pos (h p (List.mem_cons_self ..)),ih (Zc5.2 fun q hq=>h q (List.mem_cons_of_mem _ hq))]
  rfl
theorem YgK{ps:List Pr}(h:heldP ps=false):∃x∈itA ps,x.2≠0:=by
 induction ps with
 |nil=>cases h
 |cons p ps ih=>
  unfold itA
  split
  ·rename_i hz
   have:heldP ps=false:=by
    rw[heldP,List.all_cons,Vy2 hz,Bool.true_and]at h
    exact h
   obtain⟨x,hx,hx2⟩:=ih this
   exact⟨x,List.mem_cons_of_mem _ hx,hx2⟩
  ·exact⟨_,List.mem_singleton.2 rfl,by decide⟩
theorem ZzE:∀(ps:List Pr),∀x∈itA ps,x.2=0∨x.2=8
 |[],x,h=>by cases h
 |p::ps,x,h=>by
  unfold itA at h
  split at h
  ·rcases List.mem_cons.1 h with rfl|h
   ·exact .inl rfl
   ·exact ZzE ps x h
  ·rw[List.mem_singleton.1 h];exact .inr rfl
theorem ZuQ{ps:List Pr}{j:Nat}(h:j<ps.length)(hh:heldP (ps.take j)=true)(hz:acE ps[j].v=0):heldP (ps.take (j+1))=true:=by
 rw[Zc5]at hh ⊢
 intro p hp
 rw[Vy5 h]at hp
 rcases List.mem_append.1 hp with hp|hp
 ·exact hh p hp
 ·rw[List.mem_singleton.1 hp];exact hz
theorem Ydi{ps:List Pr}{j:Nat}(h:j<ps.length)(hh:heldP (ps.take j)=true)(hz:¬acE ps[j].v=0):itA ps=((ps.take j).map fun p=>(acOf p.v,(0:Int)))++[(ac0,8)]:=by
 induction ps generalizing j with
 |nil=>simp at h
 |cons p ps ih=>
  cases j with
  |zero=>
   unfold itA
   rw[if_neg (by simpa using hz)]
   rfl
  |succ j=>
   rw[List.take_succ_cons]at hh
   have hp:=Zc5.1 hh p (List.mem_cons_self ..)
   unfold itA
   rw[if_pos hp,ih (j:=j) (by simpa using h) (Zc5.2 fun q hq=>Zc5.1 hh q (List.mem_cons_of_mem _ hq)) (by simpa using hz)]
   rfl
theorem Yet(t:Tr):∀x∈seqA t,x.2=0∨x.2=8:=fun x h=>by
 unfold seqA at h
 split at h
 ·exact ZzE _ x h
 ·rw[List.mem_singleton.1 h];exact .inr rfl
theorem Zp6(t:Tr):mayA t=true↔∀x∈seqA t,x.2=0:=by
 unfold mayA seqA
 cases h:mayT t with
 |false=>simp
 |true=>
  rw[Bool.true_and,if_pos rfl]
  constructor
  ·intro hh x hx
   rw[Zpz hh]at hx
   obtain⟨p,-,rfl⟩:=List.mem_map.1 hx
   rfl
  ·intro hh
   cases hq:heldP (allT t) with
   |true=>rfl
   |false=>
    obtain⟨x,hx,hx2⟩:=YgK hq
    exact absurd (hh x hx) hx2
end Go.Proofs.YtnnclggeifnomaaGreatDoor
