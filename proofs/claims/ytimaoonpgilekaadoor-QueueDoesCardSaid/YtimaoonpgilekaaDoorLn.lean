import Derived.Test.YtimaoonpgilekaaDoorTxS
import Derived.Test.YtimaoonpgilekaaDoorQuP
set_option linter.all false
namespace Go.Proofs.YtimaoonpgilekaaDoor
open Go.RowKit
set_option maxRecDepth 100000
instance:Enc Ln:=Enc.by_ fun x=>(x.d,x.xs)
def lnC(d:Dg)(A:Option Addr)(n c:Nat):List Value:=d.1.map bv++[.slice A n c]
theorem Yo2{F:Nat→Prop}{w:World}{x:Ln}{vs:List Value}(h:Enc.rep F w x vs):∃A c,vs=lnC x.d A x.xs.length c∧x.xs.length≤c∧c≤maxLen∧Row F w A x.xs:=by
 obtain⟨us,ts,rfl,h1,A,c,rfl,h2⟩:=h
 have h1:us=x.d.1.map bv:=h1
 subst h1
 exact⟨A,c,rfl,h2⟩
theorem opensLn:Opens Tryd.prog 26 Ln:=
 Opens.by_ (fun p:Ln=>(p.d,p.xs)) (fun b=>⟨b.1,b.2⟩) (fun b=>rfl) (Opens.struct2 Tryd.underlying26 (by kernel_rfl) rfl rfl ZeQ Yon)
theorem Yov(d:Dg)(A:Option Addr)(n c:Nat):(lnC d A n c).length=33:=by simp[lnC,d.2]
theorem YoL(d:Dg)(A:Option Addr)(n c:Nat):(Tryd.prog.info? 26).map (·.size)=some (lnC d A n c).length:=by rw[Yov];kernel_rfl
theorem YoU(d:Dg)(A:Option Addr)(n c:Nat):(Tryd.prog.info? 26).map (·.size)=some (lnC d A n c).toArray.size:=YoL d A n c
def zLnC:Array Value:=(((List.replicate 32 (0:UInt8)).map bv)++[Value.slice none 0 0]).toArray
def zLnV:Value:=.agg zLnC
theorem YoX:(Tryd.prog.info? 26).map (fun i=>(i.zero,i.size))=some (some (.agg zLnC),zLnC.size):=by kernel_rfl
theorem YoY(d:Dg)(A:Option Addr)(n c:Nat):zLnC.size=(lnC d A n c).toArray.size:=(show zLnC.size=33 by decide +kernel).trans (by rw[Vx7,Yov])
theorem YoZ(d:Dg)(A:Option Addr)(n c:Nat):(lnC d A n c).toArray.all (·.oneCell')=true:=all_oneCell_toArray fun v hv=>by
 unfold lnC at hv
 rcases List.mem_append.1 hv with h|h
 ·exact Zbn _ v h
 ·simp at h;subst h;rfl
theorem Yoi:Places Tryd.prog 26 zLnV [(0,32),(32,1)]:=by unfold Places;kernel_rfl
theorem YoN(d:Dg)(A:Option Addr)(n c:Nat):Tryd.prog.built 26 [(0,.agg (d.1.map bv).toArray),(1,.slice A n c)]=some (lnC d A n c).toArray:=by
 rw[Za5 Yoi]
 have h:=Zgp (place:=fun i=>([(0,32),(32,1)]:List (Nat×Nat)).toArray[i]?) [(List.replicate 32 (0:UInt8)).map bv,[Value.slice none 0 0]] [.agg (d.1.map bv).toArray,.slice A n c] 0 [] (by
  refine⟨?_,?_,?_,?_,trivial⟩<;>simp[Value.cells,d.2])
 exact h
theorem YoF:Tryd.prog.built 26 []=some zLnC:=by kernel_rfl
theorem YoG(d:Dg):Tryd.prog.built 26 [(0,.agg (d.1.map bv).toArray)]=some (lnC d none 0 0).toArray:=by
 rw[Za5 Yoi]
 have hk:(d.1.map bv).length=32:=ZbO d
 have c1:(Value.agg (d.1.map bv).toArray).cells=(d.1.map bv).toArray:=rfl
 rw[ZaQ (off:=0) (by rw[c1,Vx7,hk];rfl) (by rw[c1,Vx7,hk];decide +kernel),Instr.fill]
 have e1:lay zLnV.cells.toList 0 (Value.agg (d.1.map bv).toArray).cells.toList=lnC d none 0 0:=by
  rw[c1]
  simp only[lay,List.take_zero,List.nil_append,hk]
  rfl
 rw[e1]
structure BoxL (W:World) (g:Nat) (d:Dg) (A:Option Addr) (n c:Nat):Prop where
 all:W.rangeAt g 0 (lnC d A n c)
 d:W.rangeAt g 0 (d.1.map bv)
 x:W.cell? ⟨g,32,none⟩=some (.slice A n c)
theorem BoxL.of{W:World}{g:Nat}{d:Dg}{A:Option Addr}{n c:Nat}(h:W.rangeAt g 0 (lnC d A n c)):BoxL W g d A n c:=by
 have hl:(d.1.map bv).length=32:=ZbO d
 refine⟨h,fun i v hv=>h i v ?_,?_⟩
 ·unfold lnC
  rw[List.getElem?_append_left (List.getElem?_eq_some_iff.1 hv).1];exact hv
 ·have:=h 32 (.slice A n c) (by unfold lnC;rw[List.getElem?_append_right (by omega),hl];rfl)
  simpa using this
theorem BoxL.bel{W W':World}{g:Nat}{d:Dg}{A:Option Addr}{n c:Nat}(h:BoxL W g d A n c)(hb:Below W.heap.size W W'):BoxL W' g d A n c:=BoxL.of (Zab hb h.all)
theorem BoxL.new(W:World)(d:Dg)(A:Option Addr)(n c:Nat)(t:TypeId):BoxL (W.alloc (.cells (lnC d A n c).toArray t)) W.heap.size d A n c:=BoxL.of (Zae (Vx0 W _))
theorem YqF{w:World}{g:Nat}{d:Dg}{A:Option Addr}{n c:Nat}{t:TypeId}(h:w.heap[g]? =some (.cells (lnC d A n c).toArray t (0,0)))(A':Option Addr)(n' c':Nat):(w.setCell ⟨g,32,none⟩ (.slice A' n' c')).heap[g]? =some (.cells (lnC d A' n' c').toArray t (0,0)):=by
 have hl:(d.1.map bv).length=32:=ZbO d
 rw[ZaD h]
 congr 2
 unfold lnC
 rw[List.setIfInBounds_toArray,List.set_append_right _ _ (by omega),hl]
 rfl
theorem OwnQ.keptL{α:Type}[Enc α]{E:TypeId}{w w':World}{B0 B g:Nat}{A:Option Addr}{c:Nat}{xs:List α}(h:OwnQ E w B0 B A c xs)(hk:∀b,b<w.heap.size→b≠g→w'.heap[b]? =w.heap[b]?)(h0:g<B0)(h1:g<B):OwnQ E w' B0 B A c xs:=by
 have hb:=h.blk
 obtain⟨F,k1,k2⟩:=h
 exact⟨F,k1.kept (fun a ha hl=>hk _ hl fun e=>by have:=(hb a ha).1;omega) (fun b hf hl=>hk b hl fun e=>by have:=(k2 b hf).1;omega),fun b hf=>⟨(k2 b hf).1,(k2 b hf).2.kept (hk b (k2 b hf).2.lt fun e=>by have:=(k2 b hf).1;omega)⟩⟩
def sameL(x y:Ln):Bool:=decide (x.d=y.d)&&decide (x.xs=y.xs)
end Go.Proofs.YtimaoonpgilekaaDoor
