import Derived.Test.YtimaoonpgilekaaDoorRoad
set_option linter.all false
namespace Go.Proofs.YtimaoonpgilekaaDoor
open Go.RowKit Go.Shelf
attribute [local go_sem] Oper.semAt_some
theorem room_of_none{F:Fence}(hd:F.depth=none)(k:Nat):F.room k:=fun d h=>by rw[hd]at h;cases h
theorem RoundIn.anyDepth{F:Fence}(hd:F.depth=none){m m':Nat}{P:Program}{l:Nat}{f:FuncId}{tmps:Array Value}{assign body:Code}{w:World}{R:Ending→World→Prop}
  (h:RoundIn F m P l f tmps assign body w R):RoundIn F m' P l f tmps assign body w R:=⟨h.1,fun c cs _=>h.2 c cs (room_of_none hd _)⟩
theorem YieldAt.anyDepth{F:Fence}(hd:F.depth=none){m:Nat}(m':Nat){P:Program}{l:Nat}{args:Array Value}{W:World}{R:Ending→World→Prop}(h:YieldAt F m P l args W R):YieldAt F m' P l args W R:=by
 obtain⟨fn,tmps,assign,body,hy,hR⟩:=h
 exact⟨fn,tmps,assign,body,hy,RoundIn.anyDepth hd hR⟩
theorem Zkr{F:Fence}{n:Nat}{P:Program}{ops:Array Oper}{rest:List Oper}{o:Oper}{a:Act}{w:World}{Q:Exit→Act→World→Prop}(hw:Region.wanted o (yielded ops a.tmps)=true)(ty:TypeId)(x:Operand)(ho:o.op=.load ty x)
  (g:Nat) (hx:a.eval x=.pointer (some ⟨g,0,none⟩)) (t:TypeId) (cs:Array Value) (fr:Nat×Nat) (d:TypeDesc) (hg:w.heap[g]? =some (.cells cs t fr))
  (hu:P.underlying ty=some d) (hd:(match d with| .struct _| .array _ _=>true|_=>false)=true) (hi:(P.info? ty).map (·.size)=some cs.size)
  (h:wpListIn F n P ops Q rest (a.put o.dst (.agg cs)) w):wpListIn F n P ops Q (o::rest) a w:=
 wpListIn_step fun K hK=>ZaI hw ty x ho g hx t cs fr d hg hu hd hi (hK _ _ h)
theorem Zk2{α:Type}[Enc α]{E:TypeId}{W W':World}{B0 B:Nat}{A:Option Addr}{c:Nat}{xs:List α}{row:Option Nat}(h:OwnQ E W B0 B A c xs)(hg:W.grownBy W' row)(hr:∀r,row=some r→∃o:Obj,W.heap[r]? =some o∧o.isCells=false):OwnQ E W' B0 B A c xs:=by
 obtain⟨F,h1,h2⟩:=h
 refine⟨F,h1.kept (fun a ha hl=>?_) (fun b hb hl=>?_),fun b hb=>⟨(h2 b hb).1,(h2 b hb).2.kept ?_⟩⟩
 ·obtain⟨cur,e,hc⟩:=h1.form a ha
  exact hg.block _ hl (Zax hc hr)
 ·obtain⟨cs,t,hc⟩:=(h2 b hb).2
  exact hg.block b hl (Zax hc hr)
 ·obtain⟨cs,t,hc⟩:=(h2 b hb).2
  exact hg.block b (block_lt hc) (Zax hc hr)
theorem OwnQ.setG{α:Type}[Enc α]{E:TypeId}{W:World}{B0 B g:Nat}{A:Option Addr}{c:Nat}{xs:List α}(h:OwnQ E W B0 B A c xs)(h0:g<B0)(h1:g<B)(u:Value):OwnQ E (W.setCell ⟨g,0,none⟩ u) B0 B A c xs:=by
 obtain⟨F,k1,k2⟩:=h
 have hk:∀b,b≠g→(W.setCell ⟨g,0,none⟩ u).heap[b]? =W.heap[b]? :=fun b hne=>Vy3 _ _ _ _ hne
 exact⟨F,k1.kept (fun a ha _=>hk _ (fun e=>by have:=(k1.blk a ha).1;omega)) (fun b hb _=>hk b (fun e=>by have:=(k2 b hb).1;omega)),fun b hb=>⟨(k2 b hb).1,(k2 b hb).2.kept (hk b (fun e=>by have:=(k2 b hb).1;omega))⟩⟩
section
variable{F:Fence}{n:Nat}{P:Program}
theorem ZeU{o:Oper}{a:Act}{w w':World}{v:Value}{K:Act→World→Prop}{Q:Exit→Act→World→Prop}(hd:∀c,o.op≠.defer c)(ha:o.about P w a.eval=none)
  (hrun:(execOp a.eval o).run P w=.ok (.value v) w') (h:K (a.put o.dst v) w'):Oper.wpIn F n P o a w K Q:=by
 refine⟨fun f hf=>(by rw[ha]at hf;cases hf),?_⟩
 rw[Oper.semAt_plain F _ _ hd,hrun]
 exact h
theorem ZsK{o:Oper}{a:Act}{w w':World}{K:Act→World→Prop}{Q:Exit→Act→World→Prop}(hd:∀c,o.op≠.defer c)(ha:o.about P w a.eval=none)
  (hrun:(execOp a.eval o).run P w=.ok .skip w') (h:K (a.put o.dst undef) w'):Oper.wpIn F n P o a w K Q:=by
 refine⟨fun f hf=>(by rw[ha]at hf;cases hf),?_⟩
 rw[Oper.semAt_plain F _ _ hd,hrun]
 exact h
theorem Zcu{ops:Array Oper}{rest:List Oper}{o:Oper}{a:Act}{w:World}{Q:Exit→Act→World→Prop}(hg:o.guard=none)(ty:TypeId)(ho:o.op=.alloc ty)
  (zs:Array Value) (hz:(P.info? ty).map (fun i=>(i.zero,i.size))=some (some (.agg zs),zs.size))
  (h:wpListIn F n P ops Q rest (a.put o.dst (.pointer (some ⟨w.heap.size,0,none⟩))) (w.alloc (.cells zs ty))):wpListIn F n P ops Q (o::rest) a w:=by
 refine wpListIn_plain hg fun K hK=>?_
 have hq:∃i,P.info? ty=some i∧i.zero=some (.agg zs):=by
  cases hq:P.info? ty with
  |none=>simp[hq]at hz
  |some i=>simp[hq]at hz;exact⟨i,rfl,hz.1⟩
 obtain⟨i,hi,hzz⟩:=hq
 refine ZeU (by rw[ho];intro c hc;cases hc) (by simp[Oper.about,ho]) ?_ (hK _ _ h)
 unfold execOp
 simp only[ho]
 simp[Instr.alloc,zeroValue,typeInfo,hi,hzz,newVar,Value.cells]
 rfl
theorem ZbF{ops:Array Oper}{rest:List Oper}{o:Oper}{a:Act}{w:World}{Q:Exit→Act→World→Prop}(hg0:o.guard=none)(ty:TypeId)(x y:Operand)(ho:o.op=.store ty x y)
  (g:Nat) (cs:Array Value) (hx:a.eval x=.pointer (some ⟨g,0,none⟩)) (hy:a.eval y=.agg cs) (t:TypeId) (old:Array Value) (hg:w.heap[g]? =some (.cells old t (0,0)))
  (hi:(P.info? ty).map (·.size)=some cs.size) (hold:old.size=cs.size) (h1:cs.all (·.oneCell')=true)
  (h:∀w',w'.heap[g]? =some (.cells cs t (0,0))→w.grownBy w' (some g)→w'.heap.size=w.heap.size→wpListIn F n P ops Q rest (a.put o.dst undef) w'):wpListIn F n P ops Q (o::rest) a w:=by
 refine wpListIn_plain hg0 fun K hK=>?_
 have hrun:=run_storeVar_row (P:=P) w g t ty old cs hg hi hold h1
 refine ZsK (w':=w.setRow g cs) (by rw[ho];intro c hc;cases hc) (by simp[Oper.about,ho]) ?_ (hK _ _ (h _ (setRow_heap w g old cs t (0,0) hg) (Zlz w g cs) (by simp[World.setRow])))
 unfold execOp
 simp only[ho,hx,hy,Instr.storeAt,Instr.sureAddr,Sem.run_bind,Sem.run_pure,Result.andThen_ok,hrun]
theorem ZaH{α:Type}[Enc α]{S E:TypeId}{z:Value}{bytes:Nat}(hS:Slot P α S E z bytes)(hsm:Enc.size α≤16777216){w:World}{ops:Array Oper}{o:Oper}{a:Act}{K:Act→World→Prop}{Q:Exit→Act→World→Prop}{X:Prop}(hw:Region.wanted o (yielded ops a.tmps)=true)
  (x:Operand) (hop:o.op=.buildSlice S 1 #[(0,x)]) (cs:List Value) (hx:(a.eval x).cells=cs.toArray) (hcs:cs.length=Enc.size α)
  (hK:∀w',w'=w.alloc (.cells cs.toArray E)→K (a.put o.dst (.slice (some ⟨w.heap.size,0,none⟩) 1 1)) w'):if Region.wanted o (yielded ops a.tmps)=true then Oper.wpIn F n P o a w K Q else X:=by
 rw[if_pos hw]
 refine ZeU (by rw[hop];intro c hc;cases hc) (by simp[Oper.about,hop]) ?_ (hK _ rfl)
 unfold execOp
 simp only[hop,List.map_toArray,List.map_cons,List.map_nil,Sem.run_bind,ZlJ hS hsm cs hcs _ hx w,Result.andThen_ok]
 rfl
theorem ZaN{α:Type}[Enc α]{S E:TypeId}{z:Value}{bytes:Nat}(hS:Slot P α S E z bytes){w:World}{ops:Array Oper}{o:Oper}{a:Act}{K:Act→World→Prop}{Q:Exit→Act→World→Prop}{X:Prop}(hw:Region.wanted o (yielded ops a.tmps)=true)(s x:Operand)
  (hop:o.op=.call { callee:=.builtin .append,args:=#[s,x],argTypes:=#[S,S] })
  (B0 B:Nat) (A A2:Option Addr) (m k c c2:Nat) (xs ys:List α) (F2:Nat→Prop) (hs:a.eval s=.slice A m c) (hx:a.eval x=.slice A2 k c2) (hn:m=xs.length) (hm:k=ys.length)
  (ho:OwnQ E w B0 B A c xs) (hr:Src F2 w A2 ys) (hF:∀b,F2 b→B0≤b∧Soft w b∧∀a,A=some a→b≠a.block) (hlen:(xs.length+ys.length) * (bytes+1)≤140737488355328) (hB:B≤w.heap.size)
  (hK:∀A' c' w',OwnQ E w' B0 B A' c' (xs++ys)→Below B w w'→w.grownBy w' (A.map (·.block))→K (a.put o.dst (.slice A' (xs++ys).length c')) w'):
  if Region.wanted o (yielded ops a.tmps)=true then Oper.wpIn F n P o a w K Q else X:=by
 rw[if_pos hw]
 subst hn hm
 obtain⟨A',c',w',hrun,h1,h2,h3⟩:=ZiD hS o.type ho c2 F2 hr hF hlen hB
 refine ZeU (by rw[hop];intro c hc;cases hc) (by simp[Oper.about,hop,resolve,Target.leads,Sem.run_pure]) ?_ (hK A' c' w' h1 h2 h3)
 unfold execOp
 simp only[hop,resolve,invoke,builtin,Sem.run_bind,Sem.run_pure,Result.andThen_ok,List.map_toArray,List.map_cons,List.map_nil,hs,hx,hrun]
end
section
variable{F:Fence}{n:Nat}{P:Program}
theorem ZgY{ops:Array Oper}{rest:List Oper}{o:Oper}{a:Act}{w:World}{Q:Exit→Act→World→Prop}(hg0:o.guard=none)(ty:TypeId)(x:Operand)(ho:o.op=.load ty x)
  (b i:Nat) (hx:a.eval x=.pointer (some ⟨b,i,none⟩)) (cs:List Value) (d:TypeDesc) (hS:w.rangeAt b i cs) (hu:P.underlying ty=some d) (hd:d.isRow=true) (hi:(P.info? ty).map (·.size)=some cs.length)
  (h:wpListIn F n P ops Q rest (a.put o.dst (.agg cs.toArray)) w):wpListIn F n P ops Q (o::rest) a w:=by
 refine wpListIn_plain hg0 fun K hK=>?_
 refine ZeU (w':=w) (v:=.agg cs.toArray) (by rw[ho];intro c hc;cases hc) (by simp[Oper.about,ho]) ?_ (hK _ _ h)
 simp only[execOp,ho,hx,Instr.loadAt,Instr.sureAddr,Sem.run_bind,Sem.run_pure,Result.andThen_ok,run_loadVar_mid w b i ty cs d hS hu hd hi]
end
def KeepA(n₀:Nat)(Z:Nat→Prop)(W W':World):Prop:=Below n₀ W W'∧∀(b:Nat) (cs:Array Value) (t:TypeId) (fr:Nat×Nat),W.heap[b]? =some (.cells cs t fr)→¬Z b→W'.heap[b]? =W.heap[b]?
theorem KeepA.refl(n₀:Nat)(Z:Nat→Prop)(W:World):KeepA n₀ Z W W:=⟨Below.refl _ _,fun _ _ _ _ _ _=>rfl⟩
theorem KeepA.trans{n₀:Nat}{Z:Nat→Prop}{A B C:World}(h:KeepA n₀ Z A B)(k:KeepA n₀ Z B C):KeepA n₀ Z A C:=
 ⟨h.1.trans k.1,fun b cs t fr hb ht=>(k.2 b cs t fr ((h.2 b cs t fr hb ht).trans hb) ht).trans (h.2 b cs t fr hb ht)⟩
theorem KeepA.bel{n₀:Nat}{Z:Nat→Prop}{W W':World}(hb:Below W.heap.size W W')(hn:n₀≤W.heap.size):KeepA n₀ Z W W':=
 ⟨hb.mono hn,fun b cs t fr h _=>hb.block b (Array.getElem?_eq_some_iff.1 h).1⟩
theorem Row.rds{F:Nat→Prop}{w:World}{A:Option Addr}{ls:List (List UInt8)}(h:Row F w A ls):Rds w A ls:=fun hn=>by
 obtain⟨b,o,rfl,-,-,h3⟩:=h hn
 refine⟨b,o,rfl,fun j l hl=>?_⟩
 obtain⟨vs,⟨A',c',rfl,k1,k2,k3⟩,h5⟩:=h3 j l hl
 refine⟨A',c',?_,k3.rd,k1,k2⟩
 have:=h5 0 _ rfl
 simpa [show Enc.size (List UInt8)=1 from rfl] using this
section
variable{P:Program}
end
theorem Za0{P:Program}{α:Type}[Enc α]{S E:TypeId}{z:Value}{bytes:Nat}(hS:Slot P α S E z bytes){w:World}{ops:Array Oper}{rest:List Oper}{o:Oper}{a:Act}{Q:Exit→Act→World→Prop}(hg:Region.wanted o (yielded ops a.tmps)=true)
  (hop:o.op=.buildSlice S 0 #[]) (hK:wpList P ops Q rest (a.put o.dst (.slice (some ⟨w.heap.size,0,none⟩) 0 0)) (w.alloc (.cells #[] E))):wpList P ops Q (o::rest) a w:=
 wpList_step fun K hK2=>by
  rw[if_pos hg]
  obtain⟨i,hi,hz,hsz,hby⟩:=info_parts hS.info
  unfold Oper.wp execOp
  have e:(Instr.buildSlice S 0 #[]).run P w=.ok (.slice (some ⟨w.heap.size,0,none⟩) 0 0) (w.alloc (.cells #[] E)):=by
   simp[Instr.buildSlice,run_underlying hS.under,sizeOf,typeInfo,zeroValue,hi,newRow,Instr.fill]
   rw[show Array.map (fun x:Nat=>(default:Value)) (Array.range 0)=#[] from Array.eq_empty_of_size_eq_zero (by simp)]
  simp only[hop,List.map_toArray,List.map_nil,Sem.run_bind,e,Result.andThen_ok]
  exact hK2 _ _ hK
theorem OwnR.one{α:Type}[Enc α]{E:TypeId}{F:Nat→Prop}{w:World}{B:Nat}{x:α}{cs:List Value}(h:Enc.rep F w x cs)(hF:∀b,F b→B≤b∧Soft w b)(hB:B≤w.heap.size):
  OwnR E (w.alloc (.cells cs.toArray E)) B (some ⟨w.heap.size,0,none⟩) 1 [x]:=by
 have hl:=Enc.len h
 refine⟨F,⟨[cs],rfl,⟨by simp[hl],.inr ⟨w.heap.size,1,cs.toArray,rfl,hB,Vx0 _ _,Vx8 _,(by decide:1≤maxLen),by simp[hl],by simp[hl];exact List.take_of_length_le (by omega)⟩⟩,?_,?_⟩,fun b hb=>⟨(hF b hb).1,(hF b hb).2.kept ((Zad w _).block b (hF b hb).2.lt)⟩⟩
 ·intro j y vs hy hv
  rcases j with _|j
  ·simp at hy hv
   subst hy hv
   exact Enc.bel h (Zad _ _)
  ·simp at hy
 ·rintro a ha hf
  injection ha with ha
  subst ha
  exact absurd (hF _ hf).2.lt (Nat.lt_irrefl _)
end Go.Proofs.YtimaoonpgilekaaDoor
