import Derived.Test.YtomhoehlgagiiaaGreatDoorMem
import Derived.OwnWalkIn
set_option linter.all false
namespace Go.Proofs.YtomhoehlgagiiaaGreatDoor
open Go Go.RowKit
section
variable{F:Fence}{n:Nat}{P:Program}{ops:Array Oper}{Q:Exit→Act→World→Prop}{md:Region.Mode}{S:World→Prop}
def noDefer(ops:Array Oper):Bool:=ops.all fun o=>match o.op with| .defer _=>false|_=>true
theorem noDefer_spec{i:Nat}{o:Oper}(h:noDefer ops=true)(ho:ops[i]? =some o):∀c,o.op≠.defer c:=fun c hc=>by
 have hi:=Array.getElem?_eq_some_iff.1 ho
 have:=(Array.all_eq_true.1 h) i hi.1
 rw[hi.2,hc]at this
 cases this
def YIf(P:Program)(ops:Array Oper)(S:World→Prop)(o:Oper)(v:Value)(a:Act):Prop:=YieldsIf P ops S o v a∧∀w,o.about P w a.eval=none
theorem YIf.wpOpIn{i:Nat}{o:Oper}{v:Value}{a:Act}(hnd:∀c,o.op≠.defer c)(hi:ops[i]? =some o)(hy:YIf P ops S o v a)
  {K:Act→World→Prop} {w:World} (hS:S w) (h:K (a.put o.dst v) w):wpOpIn F n P ops Q i K a w:=by
 unfold Go.wpOpIn
 simp only[hi]
 have hab:∀f,o.about P w a.eval=some f→F.fn f:=fun f hf=>by rw[hy.2 w]at hf;cases hf
 rcases hy.1 with ⟨hw,hv⟩|⟨hw,rfl⟩
 ·simp only[hw,if_true,Oper.wpIn,Oper.semAt_plain F _ _ hnd,hv w hS,Oper.uponIn];exact⟨hab,h⟩
 ·simp only[hw,Bool.false_eq_true,if_false];exact⟨hab,h⟩
theorem wpOpIn_putH{j:Nat}{oi oj:Oper}{v:Value}(hnd:∀c,oj.op≠.defer c)(hj:ops[j]? =some oj)(hap:oi.apart ops oj=true)
  (hsi:∀cs b,oi.op≠.select cs b) (hsj:∀cs b,oj.op≠.select cs b)
  (hQ:∀c a w,Q (.panic c) (a.put oi.dst v) w→Q (.panic c) a w) {K:Act→World→Prop} {a:Act} {w:World}
  (hy:YIf P ops S oi v a) (h:wpOpIn F n P ops Q j K (a.put oi.dst v) w):
  wpOpIn F n P ops Q j (fun a' w'=>YIf P ops S oi v a'∧K (a'.put oi.dst v) w') a w:=by
 obtain⟨h1,h2,h3⟩:=Oper.apart_spec hap
 have keep:∀(a:Act),YIf P ops S oi v a→∀u,YIf P ops S oi v (a.put oj.dst u):=fun a hy u=>
  ⟨hy.1.of_same (execOp_put oi hsi a oj.dst u h3) (wanted_put oi a oj.dst u h3),fun w=>by rw[about_put oi w a oj.dst u h3];exact hy.2 w⟩
 unfold Go.wpOpIn at *
 simp only[hj]at *
 rw[wanted_put oj a oi.dst v h1,about_put oj w a oi.dst v h1]at h
 split
 ·rename_i hw
  simp only[hw,if_true]at h
  unfold Oper.wpIn at *
  rw[about_put oj w a oi.dst v h1]at h
  refine⟨h.1,?_⟩
  have h:=h.2
  rw[Oper.semAt_plain F _ _ hnd,execOp_put oj hsj a oi.dst v h1]at h
  rw[Oper.semAt_plain F _ _ hnd]
  generalize (execOp a.eval oj).run P w=r at *
  cases r with
  |ok x w'=>
   cases x<;>simp only[Oper.uponIn]at h ⊢
   case value u=>exact⟨keep a hy u,by rw[← Act.put_comm a v u h2];exact h⟩
   case skip=>exact⟨keep a hy _,by rw[← Act.put_comm a v undef h2];exact h⟩
   case defer d=>
    refine⟨⟨(hy.1.of_same rfl rfl:YieldsIf P ops S oi v { a with defers:=d::a.defers }).of_same (execOp_put oi hsi _ oj.dst _ h3) (wanted_put oi _ oj.dst _ h3),fun w=>by rw[about_put oi w _ oj.dst _ h3];exact hy.2 w⟩,?_⟩
    rw[← Act.put_comm _ v undef h2,←Act.put_defers]
    exact h
   case enter f args=>
    refine⟨h.1,CallsIn.mono h.2 fun e w'' he=>?_⟩
    cases e with
    |returned u=>exact⟨keep a hy u,by rw[← Act.put_comm a v u h2];exact he⟩
    |panicked c=>exact hQ _ _ _ he
    |outgrown=>exact he
   case row row args=>exact⟨h.1,RowsIn.mono h.2 fun u w'' he=>⟨keep a hy u,by rw[← Act.put_comm a v u h2];exact he⟩⟩
   case round l f tmps assign body=>
    refine⟨h.1,RoundIn.mono h.2 fun e w'' he=>?_⟩
    cases e with
    |returned u=>exact⟨keep a hy u,by rw[← Act.put_comm a v u h2];exact he⟩
    |panicked c=>exact hQ _ _ _ he
    |outgrown=>exact he
  |halt x w'=>
   cases x<;>simp only[Oper.uponIn]at h ⊢
   case panic u=>exact hQ _ _ _ h
 ·rename_i hw
  simp only[hw]at h
  exact⟨h.1,keep a hy _,by rw[← Act.put_comm a v undef h2];exact h.2⟩
def lastOp(md:Region.Mode)(ops:Array Oper)(i:Nat):Bool:=(List.range ops.size).all fun k=>k==i||(match ops[i]? with|some o=>o.after.any fun e=>Region.binds md e&&e.on==k|none=>false)
theorem lastOp_spec{i j:Nat}{oi oj:Oper}(h:lastOp md ops j=true)(hi:ops[i]? =some oi)(hj:ops[j]? =some oj)(hne:j≠i):∃e∈oj.after,Region.binds md e=true∧e.on=i:=by
 unfold lastOp at h
 rw[List.all_eq_true]at h
 have:=h i (List.mem_range.2 (Array.getElem?_eq_some_iff.1 hi).1)
 simp only[hj,Bool.or_eq_true,beq_iff_eq,Array.any_eq_true,Bool.and_eq_true]at this
 rcases this with h|⟨x,hx,h1,h2⟩
 ·exact absurd h.symm hne
 ·exact⟨oj.after[x],Array.getElem_mem hx,h1,h2⟩
def wpInH(F:Fence)(n:Nat)(P:Program)(md:Region.Mode)(ops:Array Oper)(Q:Exit→Act→World→Prop)(S:World→Prop):Nat→Array Bool→Act→World→Prop
 |0,listed,a,w=>Region.ready md ops listed=[]∧Q .normal a w
 |fuel+1,listed,a,w=>
  (Region.ready md ops listed=[]→Q .normal a w)∧
  ∀i∈Region.ready md ops listed,wpOpIn F n P ops Q i (fun a' w'=>(lastOp md ops i=false→S w')∧wpInH F n P md ops Q S fuel (listed.setIfInBounds i true) a' w') a w
theorem wpInH_any:∀(fuel:Nat) (listed:Array Bool) (a:Act) (w:World),wpInH F n P md ops Q S fuel listed a w→wpAnyIn F n P md ops Q fuel listed a w
 |0,_,_,_,h=>h
 |fuel+1,_,_,_,h=>⟨h.1,fun i hi=>wpOpIn_mono (fun a' w' h'=>wpInH_any fuel _ a' w' h'.2) (h.2 i hi)⟩
theorem wpInH_first{i:Nat}{oi:Oper}{v:Value}(hnd:noDefer ops=true)(hi:ops[i]? =some oi)(hsel:∀(j:Nat) (o:Oper) cs b,ops[j]? =some o→o.op≠.select cs b)
  (hQ:∀c a w,Q (.panic c) (a.put oi.dst v) w→Q (.panic c) a w):
  ∀(fuel:Nat) (listed:Array Bool) (a:Act) (w:World),
   (∀ j oj,ops[j]? =some oj→j≠i→listed.getD j true=false→(∀ e∈oj.after,Region.binds md e=true→e.on≠i)→oi.apart ops oj=true)→
   i∈Region.ready md ops listed→YIf P ops S oi v a→S w→
   wpInH F n P md ops Q S fuel (listed.setIfInBounds i true) (a.put oi.dst v) w→wpInH F n P md ops Q S (fuel+1) listed a w:=by
 intro fuel
 induction fuel with
 |zero=>
  intro listed a w _ hr hy hS H
  refine⟨fun h=>(by rw[h]at hr;cases hr),fun j hj=>?_⟩
  by_cases hji:j=i
  ·subst hji;exact hy.wpOpIn (noDefer_spec hnd hi) hi hS ⟨fun _=>hS,H⟩
  ·have:=ready_mono hj hji
   rw[H.1]at this
   cases this
 |succ fuel ih=>
  intro listed a w hfree hr hy hS H
  refine⟨fun h=>(by rw[h]at hr;cases hr),fun j hj=>?_⟩
  by_cases hji:j=i
  ·subst hji;exact hy.wpOpIn (noDefer_spec hnd hi) hi hS ⟨fun _=>hS,H⟩
  ·have h1:=H.2 j (ready_mono hj hji)
   obtain⟨hjun,oj,hoj,hall⟩:=mem_ready.1 hj
   have hnot:∀e∈oj.after,Region.binds md e=true→e.on≠i:=fun e he hb heq=>by
    have h1:=hall e he hb
    have h0:=(mem_ready.1 hr).1
    rw[heq]at h1
    rcases Nat.lt_or_ge i listed.size with h'|h'
    ·simp[h']at h0 h1;rw[h0]at h1;cases h1
    ·simp[Array.getElem?_eq_none h']at h1
   have hl:lastOp md ops j=false:=Bool.eq_false_iff.2 fun h=>by
    obtain⟨e,he,hb,heq⟩:=lastOp_spec h hi hoj hji
    exact hnot e he hb heq
   have h2:=wpOpIn_putH (noDefer_spec hnd hoj) hoj (hfree j oj hoj hji hjun hnot) (fun cs b=>hsel i oi cs b hi) (fun cs b=>hsel j oj cs b hoj) hQ hy h1
   have hfree':∀k ok,ops[k]? =some ok→k≠i→(listed.setIfInBounds j true).getD k true=false→
     (∀ e∈ok.after,Region.binds md e=true→e.on≠i)→oi.apart ops ok=true:=fun k ok hk hki hun hno=>by
    refine hfree k ok hk hki ?_ hno
    by_cases hjk:j=k
    ·subst hjk;exact hjun
    ·rw[getD_set_ne true hjk]at hun;exact hun
   refine wpOpIn_mono (fun a' w' h3=>⟨fun _=>h3.2.1 hl,ih (listed.setIfInBounds j true) a' w' hfree' (ready_mono hr (Ne.symm hji)) h3.1 (h3.2.1 hl) ?_⟩) h2
   rw[Array.setIfInBounds_comm _ _ hji]
   exact h3.2.2
variable{fuel:Nat}{listed:Array Bool}{a:Act}{w:World}
theorem tiI(i:Nat){oi:Oper}{v:Value}(hi:ops[i]? =some oi)(hy:YieldsIf P ops S oi v a)(h:wpInH F n P md ops Q S fuel (listed.setIfInBounds i true) (a.put oi.dst v) w)(hab:∀w,oi.about P w a.eval=none:=by intro _;rfl)(hnd:noDefer ops=true:=by kernel_rfl)
  (hs:Region.noSelect ops=true:=by kernel_rfl) (hf:Region.free md ops listed i=true:=by kernel_rfl) (hr:(Region.ready md ops listed).contains i=true:=by kernel_rfl) (hQ:∀c a w,Q (.panic c) (a.put oi.dst v) w→Q (.panic c) a w:=by exact fun _ _ _ h=>h) (hS:S w:=by assumption):
  wpInH F n P md ops Q S (fuel+1) listed a w:=
 wpInH_first hnd hi (Region.noSelect_spec hs) hQ fuel listed a w (Region.free_spec hi hf) (by simpa using hr) ⟨hy,hab⟩ hS h
theorem tiP(i:Nat){oi:Oper}{v:Value}(hi:ops[i]? =some oi)(h:wpInH F n P md ops Q S fuel (listed.setIfInBounds i true) (a.put oi.dst v) w)(hy:∀w,S w→(execOp a.eval oi).run P w=.ok (.value v) w:=by intro W hSw;go_simp;first|done|(with_reducible rfl))(hw:Region.wanted oi (yielded ops a.tmps)=true:=by rfl)
  (hab:∀w,oi.about P w a.eval=none:=by intro _;rfl) (hnd:noDefer ops=true:=by kernel_rfl) (hs:Region.noSelect ops=true:=by kernel_rfl) (hf:Region.free md ops listed i=true:=by kernel_rfl) (hr:(Region.ready md ops listed).contains i=true:=by kernel_rfl)
  (hQ:∀c a w,Q (.panic c) (a.put oi.dst v) w→Q (.panic c) a w:=by exact fun _ _ _ h=>h) (hS:S w:=by assumption):wpInH F n P md ops Q S (fuel+1) listed a w:=tiI i hi (Or.inl ⟨hw,hy⟩) h hab hnd hs hf hr hQ hS
theorem tiL(i:Nat){oi:Oper}(v:Value)(hi:ops[i]? =some oi)(hy:∀w,S w→(execOp a.eval oi).run P w=.ok (.value v) w)(h:wpInH F n P md ops Q S fuel (listed.setIfInBounds i true) (a.put oi.dst v) w)(hw:Region.wanted oi (yielded ops a.tmps)=true:=by rfl)
  (hab:∀w,oi.about P w a.eval=none:=by intro _;rfl) (hnd:noDefer ops=true:=by kernel_rfl) (hs:Region.noSelect ops=true:=by kernel_rfl) (hf:Region.free md ops listed i=true:=by kernel_rfl) (hr:(Region.ready md ops listed).contains i=true:=by kernel_rfl)
  (hQ:∀c a w,Q (.panic c) (a.put oi.dst v) w→Q (.panic c) a w:=by exact fun _ _ _ h=>h) (hS:S w:=by assumption):wpInH F n P md ops Q S (fuel+1) listed a w:=tiI i hi (Or.inl ⟨hw,hy⟩) h hab hnd hs hf hr hQ hS
theorem tiM(i:Nat){oi:Oper}{ty:TypeId}{x:Operand}{b o:Nat}{cs:List Value}{d:TypeDesc}(hi:ops[i]? =some oi)(hR:∀w,S w→w.rangeAt b o cs)(hu:P.underlying ty=some d)(hz:(P.info? ty).map (·.size)=some cs.length)(h:wpInH F n P md ops Q S fuel (listed.setIfInBounds i true) (a.put oi.dst (.agg cs.toArray)) w)
  (ho:oi.op=.load ty x:=by rfl) (hx:a.eval x=.pointer (some ⟨b,o,none⟩):=by rfl) (hd:d.isRow=true:=by rfl) (hw:Region.wanted oi (yielded ops a.tmps)=true:=by rfl) (hab:∀w,oi.about P w a.eval=none:=by intro _;rfl) (hnd:noDefer ops=true:=by kernel_rfl) (hs:Region.noSelect ops=true:=by kernel_rfl) (hf:Region.free md ops listed i=true:=by kernel_rfl)
  (hr:(Region.ready md ops listed).contains i=true:=by kernel_rfl) (hQ:∀c a w,Q (.panic c) (a.put oi.dst (.agg cs.toArray)) w→Q (.panic c) a w:=by exact fun _ _ _ h=>h) (hS:S w:=by assumption):wpInH F n P md ops Q S (fuel+1) listed a w:=tiI i hi (yieldsIf_load_mid hw ty x ho b o hx cs d hR hu hd hz) h hab hnd hs hf hr hQ hS
theorem rdI(i:Nat){o:Oper}(ho:ops[i]? =some o)(h:∀K':Act→World→Prop,(∀ a w,S w→(S w→wpInH F n P md ops Q S fuel (listed.setIfInBounds i true) a w)→K' a w)→if Region.wanted o (yielded ops a.tmps)=true then Oper.wpIn F n P o a w K' Q else (∀ f,o.about P w a.eval=some f→F.fn f)∧K' (a.put o.dst undef) w)
  (hr:Region.ready md ops listed=[i]:=by kernel_rfl):wpInH F n P md ops Q S (fuel+1) listed a w:=
 ⟨fun h0=>(by rw[hr]at h0;cases h0),fun j hj=>by
  rw[hr,List.mem_singleton]at hj;subst hj
  exact wpOpIn_step ho fun K hK=>h K fun a w hS hW=>hK a w ⟨fun _=>hS,hW hS⟩⟩
theorem rdIl(i:Nat){o:Oper}(ho:ops[i]? =some o)(h:∀K':Act→World→Prop,(∀ a w,wpInH F n P md ops Q S fuel (listed.setIfInBounds i true) a w→K' a w)→if Region.wanted o (yielded ops a.tmps)=true then Oper.wpIn F n P o a w K' Q else (∀ f,o.about P w a.eval=some f→F.fn f)∧K' (a.put o.dst undef) w)
  (hr:Region.ready md ops listed=[i]:=by kernel_rfl) (hl:lastOp md ops i=true:=by kernel_rfl):wpInH F n P md ops Q S (fuel+1) listed a w:=
 ⟨fun h0=>(by rw[hr]at h0;cases h0),fun j hj=>by
  rw[hr,List.mem_singleton]at hj;subst hj
  exact wpOpIn_step ho fun K hK=>h K fun a w hW=>hK a w ⟨fun h0=>(by rw[hl]at h0;cases h0),hW⟩⟩
theorem dnI(h:Q .normal a w)(hr:Region.ready md ops listed=[]:=by kernel_rfl):wpInH F n P md ops Q S fuel listed a w:=by
 cases fuel with
 |zero=>exact⟨hr,h⟩
 |succ f=>exact⟨fun _=>h,by rw[hr];simp⟩
theorem wpIn_heldI{id:Nat}(S:World→Prop)(hS:S w.drew)(h:S w.drew→wpInH F n P .any ops Q S ops.size (Array.replicate ops.size false) a w.drew)(hm:P.follows .mixedOrders=true:=by kernel_rfl):(Code.region id ops true).wpIn F n P Q a w:=
 wpIn_region_any hm (wpInH_any _ _ _ _ (h hS))
end
end Go.Proofs.YtomhoehlgagiiaaGreatDoor
