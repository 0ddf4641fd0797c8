import Derived.Test.YtimaoonpgilekaaDoorBy
import Derived.Deep.MidRow
import Derived.Deep.RegionHeld3
import Derived.Great.BuildSlice
import Derived.Deep.Matrix
import Derived.Deep.Slices
import Derived.ChangeArms
import Derived.Lib.LaidTab
import Derived.Laws.Slices
set_option maxRecDepth 100000
set_option linter.all false
namespace Go.Proofs.YtimaoonpgilekaaDoor
open Go.RowKit Go.ChangeShapes Go.WideShapes
class Enc (α:Type) where
 size:Nat
 rep:(Nat→Prop)→World→α→List Value→Prop
 len:∀{F:Nat→Prop} {w:World} {x:α} {vs:List Value},rep F w x vs→vs.length=size
 one:∀{F:Nat→Prop} {w:World} {x:α} {vs:List Value},rep F w x vs→∀v∈vs,v.oneCell'=true
 kept:∀{F:Nat→Prop} {w w':World} {x:α} {vs:List Value},rep F w x vs→(∀ b,F b→b<w.heap.size→w'.heap[b]? =w.heap[b]?)→rep F w' x vs
 mono:∀{F G:Nat→Prop} {w:World} {x:α} {vs:List Value},rep F w x vs→(∀ b,F b→b<w.heap.size→G b)→rep G w x vs
section
variable{α:Type}[Enc α]{F G:Nat→Prop}{w w':World}{A:Option Addr}{b o:Nat}{xs ys:List α}{x:α}{vs:List Value}
theorem Enc.bel(h:Enc.rep F w x vs)(hb:Below w.heap.size w w'):Enc.rep F w' x vs:=Enc.kept h fun b _ hl=>hb.block b hl
def Cells(F:Nat→Prop)(w:World)(b o:Nat)(xs:List α):Prop:=
 ∀j x,xs[j]? =some x→∃vs,Enc.rep F w x vs∧w.rangeAt b (o+j * Enc.size α) vs
theorem Zak{vs:List Value}(h:w.rangeAt b o vs)(hk:b<w.heap.size→w'.heap[b]? =w.heap[b]?):w'.rangeAt b o vs:=fun j v hv=>by
 have h1:=h j v hv
 exact(World.cell?_of_block (a:=⟨b,o+j,none⟩) (hk (Vx5 _ _ h1))).trans h1
theorem Cells.kept(h:Cells F w b o xs)(hk:b<w.heap.size→w'.heap[b]? =w.heap[b]?)(hF:∀b,F b→b<w.heap.size→w'.heap[b]? =w.heap[b]?):Cells F w' b o xs:=fun j x hx=>by
 obtain⟨vs,h1,h2⟩:=h j x hx
 exact⟨vs,Enc.kept h1 hF,Zak h2 hk⟩
theorem Cells.bel(h:Cells F w b o xs)(hb:Below w.heap.size w w'):Cells F w' b o xs:=h.kept (hb.block b) fun b _ hl=>hb.block b hl
theorem Cells.mono(h:Cells F w b o xs)(hG:∀b,F b→b<w.heap.size→G b):Cells G w b o xs:=fun j x hx=>by
 obtain⟨vs,h1,h2⟩:=h j x hx
 exact⟨vs,Enc.mono h1 hG,h2⟩
theorem Cells.drop(h:Cells F w b o xs)(k:Nat):Cells F w b (o+k * Enc.size α) (xs.drop k):=fun j x hx=>by
 rw[List.getElem?_drop]at hx
 obtain⟨vs,h1,h2⟩:=h _ x hx
 refine⟨vs,h1,?_⟩
 rw[Nat.add_mul,←Nat.add_assoc]at h2
 exact h2
theorem Cells.take(h:Cells F w b o xs)(k:Nat):Cells F w b o (xs.take k):=fun j x hx=>by
 rw[List.getElem?_take]at hx
 split at hx
 ·exact h j x hx
 ·cases hx
def Row(F:Nat→Prop)(w:World)(A:Option Addr)(xs:List α):Prop:=
 0<xs.length→∃b o,A=some ⟨b,o,none⟩∧F b∧b<w.heap.size∧Cells F w b o xs
theorem Row.nil(F:Nat→Prop)(w:World)(A:Option Addr):Row F w A ([]:List α):=fun h=>absurd h (by simp)
theorem Row.kept(h:Row F w A xs)(hF:∀b,F b→b<w.heap.size→w'.heap[b]? =w.heap[b]?)(hs:w.heap.size≤w'.heap.size):Row F w' A xs:=fun hn=>by
 obtain⟨b,o,rfl,h1,h2,h3⟩:=h hn
 exact⟨b,o,rfl,h1,Vx4 h2 hs,h3.kept (fun _=>hF b h1 h2) hF⟩
theorem Row.bel(h:Row F w A xs)(hb:Below w.heap.size w w'):Row F w' A xs:=h.kept (fun b _ hl=>hb.block b hl) hb.size
theorem Row.alloc(h:Row F w A xs)(o:Obj):Row F (w.alloc o) A xs:=h.bel (Zad w o)
theorem Row.mono(h:Row F w A xs)(hG:∀b,F b→b<w.heap.size→G b):Row G w A xs:=fun hn=>by
 obtain⟨b,o,rfl,h1,h2,h3⟩:=h hn
 exact⟨b,o,rfl,hG b h1 h2,h2,h3.mono hG⟩
theorem Row.take(h:Row F w A xs)(k:Nat):Row F w A (xs.take k):=fun hn=>by
 simp only[List.length_take]at hn
 obtain⟨b,o,rfl,h1,h2,h3⟩:=h (by omega)
 exact⟨b,o,rfl,h1,h2,h3.take k⟩
theorem Zgm(b o k:Nat):(⟨b,o,none⟩:Addr).add k=⟨b,o+k,none⟩:=by unfold Addr.add;split<;>simp_all
theorem Row.cut(h:Row F w A xs)(k cap:Nat)(hk:k≤xs.length)(hc:xs.length≤cap):
  Row F w (if cap=k then A else A.map (·.add (k * Enc.size α))) (xs.drop k):=fun hn=>by
 simp only[List.length_drop]at hn
 obtain⟨b,o,rfl,h1,h2,h3⟩:=h (by omega)
 rw[if_neg (by omega)]
 exact⟨b,o+k * Enc.size α,by rw[Option.map_some,Zgm],h1,h2,h3.drop k⟩
structure Chg (F:Nat→Prop) (w w':World):Prop where
 os:w'.os=w.os
 tape:w'.tape=w.tape
 output:w'.output=w.output
 size:w.heap.size≤w'.heap.size
 block:∀b,b<w.heap.size→¬F b→w'.heap[b]? =w.heap[b]?
theorem Chg.refl(F:Nat→Prop)(w:World):Chg F w w:=⟨rfl,rfl,rfl,Vx8 _,fun _ _ _=>rfl⟩
theorem Chg.trans{w'':World}(h:Chg F w w')(k:Chg F w' w''):Chg F w w'':=
 ⟨k.os.trans h.os,k.tape.trans h.tape,k.output.trans h.output,Vx1 h.size k.size,fun b hb hn=>(k.block b (Vx4 hb h.size) hn).trans (h.block b hb hn)⟩
theorem Chg.mono(h:Chg F w w')(hG:∀b,b<w.heap.size→F b→G b):Chg G w w':=⟨h.os,h.tape,h.output,h.size,fun b hb hn=>h.block b hb fun hf=>hn (hG b hb hf)⟩
theorem Chg.of_bel(h:Below w.heap.size w w'):Chg F w w':=⟨h.os,h.tape,h.output,h.size,fun b hb _=>h.block b hb⟩
theorem Chg.below{B:Nat}(h:Chg F w w')(hB:B≤w.heap.size)(hF:∀b,b<B→¬F b):Below B w w':=⟨h.os,h.tape,h.output,h.size,fun b hb=>h.block b (Vx4 hb hB) (hF b hb)⟩
theorem Chg.of_grown{row:Option Nat}(h:w.grownBy w' row):Chg (fun b=>some b=row) w w':=⟨h.os,h.tape,h.output,h.size,fun b hb hn=>h.block b hb hn⟩
theorem Row.chg(h:Row F w A xs)(hc:Chg G w w')(hFG:∀b,F b→b<w.heap.size→¬G b):Row F w' A xs:=h.kept (fun b hb hl=>hc.block b hl (hFG b hb hl)) hc.size
end
instance:Enc UInt8 where
 size:=1
 rep:=fun _ _ x vs=>vs=[bv x]
 len:=by rintro F w x vs rfl;rfl
 one:=by rintro F w x vs rfl v hv;simp at hv;subst hv;rfl
 kept:=fun h _=>h
 mono:=fun h _=>h
instance:Enc Bool where
 size:=1
 rep:=fun _ _ x vs=>vs=[.bool x]
 len:=by rintro F w x vs rfl;rfl
 one:=by rintro F w x vs rfl v hv;simp at hv;subst hv;rfl
 kept:=fun h _=>h
 mono:=fun h _=>h
instance:Enc Int where
 size:=1
 rep:=fun _ _ x vs=>vs=[.int .i64 x]∧-9223372036854775808≤x∧x≤9223372036854775807
 len:=by rintro F w x vs ⟨rfl,_⟩;rfl
 one:=by rintro F w x vs ⟨rfl,_⟩ v hv;simp at hv;subst hv;rfl
 kept:=fun h _=>h
 mono:=fun h _=>h
instance:Enc Nat where
 size:=1
 rep:=fun _ _ x vs=>vs=[.int .u64 (x:Int)]∧x<18446744073709551616
 len:=by rintro F w x vs ⟨rfl,_⟩;rfl
 one:=by rintro F w x vs ⟨rfl,_⟩ v hv;simp at hv;subst hv;rfl
 kept:=fun h _=>h
 mono:=fun h _=>h
abbrev Dg:Type:={ l:List UInt8 // l.length=32 }
instance:Enc Dg where
 size:=32
 rep:=fun _ _ x vs=>vs=x.1.map bv
 len:=by rintro F w x vs rfl;rw[Vx6];exact x.2
 one:=by rintro F w x vs rfl v hv;exact Zbn _ v hv
 kept:=fun h _=>h
 mono:=fun h _=>h
instance{α:Type}[Enc α]:Enc (List α) where
 size:=1
 rep:=fun F w xs vs=>∃A c,vs=[.slice A xs.length c]∧xs.length≤c∧c≤maxLen∧Row F w A xs
 len:=by rintro F w x vs ⟨A,c,rfl,_⟩;rfl
 one:=by rintro F w x vs ⟨A,c,rfl,_⟩ v hv;simp at hv;subst hv;rfl
 kept:=by
  rintro F w w' x vs ⟨A,c,rfl,h1,h2,h3⟩ hk
  refine⟨A,c,rfl,h1,h2,fun hn=>?_⟩
  obtain⟨b,o,rfl,h4,h5,h6⟩:=h3 hn
  have hb:=hk b h4 h5
  refine⟨b,o,rfl,h4,?_,h6.kept (fun _=>hb) hk⟩
  have h7:w.heap[b]? =some w.heap[b]:=Array.getElem?_eq_getElem h5
  rw[h7]at hb
  exact(Array.getElem?_eq_some_iff.1 hb).1
 mono:=by
  rintro F G w x vs ⟨A,c,rfl,h1,h2,h3⟩ hG
  exact⟨A,c,rfl,h1,h2,h3.mono hG⟩
instance{α β:Type}[Enc α][Enc β]:Enc (α×β) where
 size:=Enc.size α+Enc.size β
 rep:=fun F w x vs=>∃us ts,vs=us++ts∧Enc.rep F w x.1 us∧Enc.rep F w x.2 ts
 len:=by rintro F w x vs ⟨us,ts,rfl,h1,h2⟩;rw[Vx3,Enc.len h1,Enc.len h2]
 one:=by
  rintro F w x vs ⟨us,ts,rfl,h1,h2⟩ v hv
  rcases List.mem_append.1 hv with h|h
  ·exact Enc.one h1 v h
  ·exact Enc.one h2 v h
 kept:=by rintro F w w' x vs ⟨us,ts,rfl,h1,h2⟩ hk;exact⟨us,ts,rfl,Enc.kept h1 hk,Enc.kept h2 hk⟩
 mono:=by rintro F G w x vs ⟨us,ts,rfl,h1,h2⟩ hG;exact⟨us,ts,rfl,Enc.mono h1 hG,Enc.mono h2 hG⟩
abbrev Enc.by_ {α β:Type} [Enc β] (f:α→β):Enc α where
 size:=Enc.size β
 rep:=fun F w x vs=>Enc.rep F w (f x) vs
 len:=fun h=>Enc.len h
 one:=fun h=>Enc.one h
 kept:=fun h hk=>Enc.kept h hk
 mono:=fun h hG=>Enc.mono h hG
theorem Row.rd{F:Nat→Prop}{w:World}{A:Option Addr}{l:List UInt8}(h:Row F w A l):Rd w A l:=fun hn=>by
 obtain⟨b,o,rfl,_,_,h3⟩:=h hn
 refine⟨b,o,rfl,fun j x hx=>?_⟩
 obtain⟨vs,rfl,h5⟩:=h3 j x hx
 have h6:=h5 0 (bv x) rfl
 rw[Nat.add_zero,show Enc.size UInt8=1 from rfl,Nat.mul_one]at h6
 exact h6
theorem Rd.row{F:Nat→Prop}{w:World}{A:Option Addr}{l:List UInt8}(h:Rd w A l)(hF:∀a,A=some a→0<l.length→F a.block):Row F w A l:=fun hn=>by
 obtain⟨b,o,rfl,h1⟩:=h hn
 refine⟨b,o,rfl,hF _ rfl hn,Vx5 _ _ (h1 0 _ (Vx9 hn)),fun j x hx=>⟨[bv x],rfl,fun i v hv=>?_⟩⟩
 rcases i with _|i
 ·simp at hv
  subst hv
  rw[Nat.add_zero,show Enc.size UInt8=1 from rfl,Nat.mul_one]
  exact h1 j x hx
 ·simp at hv
theorem Zkd{P:Program}(w:World)(base:Nat)(t ty e:TypeId)(i:TypeInfo)(z:Value)(ht:P.underlying t=some (.slice e))(hi:P.info? e=some i)(hz:i.zero=some z)(hzs:z.cells.size=i.size)(hsz:0<i.size)
  (A:Option Addr) (n c0:Nat) (xs:List Value) (hown:w.ownsRow base e i.size (.slice A n c0) n xs)
  (a:Addr) (m c:Nat) (news:List Value) (hl:news.length=m * i.size) (hnews:∀j u,news[j]? =some u→w.cell? (a.add j)=some u) (h1:∀u∈news,u.oneCell'=true)
  (h63:n+m≤maxLen) (hbytes:(n+m) * i.bytes≤140737488355328) (hbase:base≤w.heap.size):
  ∃A' c' w',(Builtin.append_ #[t,t] ty #[.slice A n c0,.slice (some a) m c]).run P w=.ok (.slice A' (n+m) c') w'∧w'.ownsRow base e i.size (.slice A' (n+m) c') (n+m) (xs++news)∧w.grownBy w' (A.map (·.block))∧
   (A'=A∨A'=some ⟨w.heap.size,0,none⟩):=by
 have hsmall:n+m≤9223372036854775807:=by simp only[maxLen]at h63;omega
 have hlen:(xs++news).length=(n+m) * i.size:=by rw[Vx3,hown.1,hl,Nat.add_mul]
 have grown:∀(old:Nat) (row:Option Nat),
   (w.drew.alloc (.cells (xs.toArray++news.toArray++Builtin.zeroCells z.cells (grownCap w (n+m) old e-(n+m))) e)).ownsRow base e i.size
    (.slice (some ⟨w.heap.size,0,none⟩) (n+m) (grownCap w (n+m) old e)) (n+m) (xs++news)∧
   w.grownBy (w.drew.alloc (.cells (xs.toArray++news.toArray++Builtin.zeroCells z.cells (grownCap w (n+m) old e-(n+m))) e)) row:=by
  intro old row
  have hge:=grownCap_ge w (n+m) old e
  refine⟨⟨hlen,.inr ⟨w.heap.size,_,_,rfl,hbase,Vx0 w.drew _,hge,grownCap_le_maxLen w (n+m) old e h63,?_,?_⟩⟩,⟨rfl,rfl,rfl,by simp,fun k hk _=>(World.grownBy_alloc w.drew _ none).block k hk (by simp)⟩⟩
  ·simp only[Array.size_append,Vx7,size_zeroCells,hzs,hown.1,hl,←Nat.add_mul]
   congr 1
   omega
  ·simp only[Array.toList_append,List.append_assoc]
   rw[← List.append_assoc,←hlen]
   exact List.take_left
 rcases hown.2 with ⟨hv,rfl⟩|⟨g,cap,cur,hv,hbg,hg,hnc,hcm,hcs,htake⟩
 ·injection hv with hA _ hc
  subst hA hc
  have hx:xs=[]:=List.eq_nil_of_length_eq_zero (by simpa using hown.1)
  subst hx
  by_cases hm:m=0
  ·subst hm
   have hn:news=[]:=List.eq_nil_of_length_eq_zero (by simpa using hl)
   subst hn
   refine⟨none,0,w,?_,World.ownsRow_nil w base e i.size,⟨rfl,rfl,rfl,Vx8 _,fun _ _ _=>rfl⟩,.inl rfl⟩
   simp[Builtin.append_,run_underlying ht,sizeOf,typeInfo,hi,Builtin.lenOf,Builtin.firstCells,loadCells,loadCellsFrom]
  ·have hr:=run_append_nil (P:=P) w t ty e i z ht hi hz a m c news hl hnews (by omega) (by omega) (by have hb:=hbytes;simp only[Nat.zero_add]at hb;omega)
   have hgr:=grown 0 none
   simp only[Nat.zero_add,List.nil_append,Array.empty_append]at hgr ⊢
   exact⟨_,_,_,hr,hgr.1,hgr.2,.inr rfl⟩
 ·injection hv with hA _ hc
  subst hA hc
  by_cases hroom:n+m≤c0
  ·have hfit:n * i.size+news.length≤cur.size:=by rw[hl,hcs,←Nat.add_mul];exact Nat.mul_le_mul_right _ hroom
   have hr:=run_append_room (P:=P) w t ty e i ht hi g n c0 cur hg a m c news hl hnews h1 hroom hfit
   refine⟨_,_,_,hr,⟨hlen,.inr ⟨g,c0,_,rfl,hbg,setRow_heap w g cur _ e _ hg,hroom,hcm,?_,?_⟩⟩,⟨rfl,rfl,rfl,by simp,fun k _ hk=>setRow_other w g k _ (fun e=>hk (by simp[e]))⟩,.inl rfl⟩
   ·simp only[Vx7,Vx3,List.length_take,List.length_drop,Array.length_toList]
    omega
   ·rw[htake,←hlen]
    exact List.take_left
  ·have holds:∀j u,xs[j]? =some u→w.cell? ((⟨g,0,none⟩:Addr).add j)=some u:=hown.cells (g:=g) rfl
   have hr:=run_append_grow (P:=P) w t ty e i z ht hi hz ⟨g,0,none⟩ n c0 xs hown.1 holds a m c news hl hnews (by omega) (by omega) (growslice_fits (by omega) hbytes)
   have hgr:=grown c0 (some g)
   exact⟨_,_,_,hr,hgr.1,hgr.2,.inr rfl⟩
def RowO{α:Type}[Enc α](E:TypeId)(F:Nat→Prop)(w:World)(B:Nat)(A:Option Addr)(c:Nat)(xs:List α):Prop:=
 ∃css:List (List Value),css.length=xs.length∧w.ownsRow B E (Enc.size α) (.slice A xs.length c) xs.length css.flatten∧
  (∀ (j:Nat) (x:α) (vs:List Value),xs[j]? =some x→css[j]? =some vs→Enc.rep F w x vs)∧(∀ a,A=some a→¬F a.block)
section
variable{α:Type}[Enc α]{E:TypeId}{F G:Nat→Prop}{w w':World}{B B':Nat}{A:Option Addr}{c:Nat}{xs ys:List α}
theorem RowO.nil(F:Nat→Prop)(w:World)(B:Nat):RowO E F w B none 0 ([]:List α):=⟨[],rfl,World.ownsRow_nil w B E _,fun j x vs h=>by simp at h,fun a h=>by cases h⟩
theorem RowO.cap(h:RowO E F w B A c xs):xs.length≤c∧c≤maxLen:=by
 obtain⟨css,_,⟨_,h2⟩,_⟩:=h
 rcases h2 with ⟨hv,h0⟩|⟨g,cap,cur,hv,_,_,hnc,hcm,_⟩
 ·injection hv with h1 h2 h3
  subst h3
  exact⟨by omega,Nat.zero_le _⟩
 ·injection hv with h1 h2 h3
  subst h3
  exact⟨hnc,hcm⟩
theorem RowO.blk(h:RowO E F w B A c xs):∀a,A=some a→B≤a.block∧a.block<w.heap.size:=by
 rintro a rfl
 obtain⟨css,_,h2,_⟩:=h
 exact h2.lt _ rfl
theorem RowO.apart(h:RowO E F w B A c xs):∀a,A=some a→¬F a.block:=h.choose_spec.2.2.2
theorem RowO.form(h:RowO E F w B A c xs):∀a,A=some a→∃cur,a=⟨a.block,0,none⟩∧w.heap[a.block]? =some (.cells cur E (0,0)):=by
 rintro a rfl
 obtain⟨css,_,⟨_,h2⟩,_⟩:=h
 rcases h2 with ⟨hv,h0⟩|⟨g,cap,cur,hv,_,hg,_⟩
 ·injection hv with h1 _ _;cases h1
 ·injection hv with h1 _ _
  injection h1 with h1
  subst h1
  exact⟨cur,rfl,hg⟩
theorem ZrP{size n:Nat}{cs:List Value}(h:w.ownsRow B E size (.slice A n c) n cs)(hk:∀a,A=some a→a.block<w.heap.size→w'.heap[a.block]? =w.heap[a.block]?):w'.ownsRow B E size (.slice A n c) n cs:=by
 refine⟨h.1,?_⟩
 rcases h.2 with hn|⟨g,cap,cur,hv,hbg,hgg,r⟩
 ·exact .inl hn
 ·injection hv with hA _ hc
  subst hA hc
  exact .inr ⟨g,c,cur,rfl,hbg,(hk _ rfl (Array.getElem?_eq_some_iff.1 hgg).1).trans hgg,r⟩
theorem RowO.kept(h:RowO E F w B A c xs)(hk:∀a,A=some a→a.block<w.heap.size→w'.heap[a.block]? =w.heap[a.block]?)(hF:∀b,F b→b<w.heap.size→w'.heap[b]? =w.heap[b]?):RowO E F w' B A c xs:=by
 obtain⟨css,h1,h2,h3,h4⟩:=h
 exact⟨css,h1,ZrP h2 hk,fun j x vs hx hv=>Enc.kept (h3 j x vs hx hv) hF,h4⟩
theorem RowO.bel(h:RowO E F w B A c xs)(hb:Below w.heap.size w w'):RowO E F w' B A c xs:=h.kept (fun a _ hl=>hb.block _ hl) fun b _ hl=>hb.block b hl
theorem RowO.alloc(h:RowO E F w B A c xs)(o:Obj):RowO E F (w.alloc o) B A c xs:=h.bel (Zad w o)
theorem RowO.base(h:RowO E F w B A c xs)(hB:B'≤B):RowO E F w B' A c xs:=by
 obtain⟨css,h1,h2,h3,h4⟩:=h
 refine⟨css,h1,⟨h2.1,?_⟩,h3,h4⟩
 rcases h2.2 with hn|⟨g,cap,cur,hv,hbg,r⟩
 ·exact .inl hn
 ·exact .inr ⟨g,cap,cur,hv,Vx1 hB hbg,r⟩
theorem RowO.mono(h:RowO E F w B A c xs)(hG:∀b,F b→b<w.heap.size→G b)(hA:∀a,A=some a→¬G a.block):RowO E G w B A c xs:=by
 obtain⟨css,h1,h2,h3,h4⟩:=h
 exact⟨css,h1,h2,fun j x vs hx hv=>Enc.mono (h3 j x vs hx hv) hG,hA⟩
theorem Zip{α:Type}{css:List (List α)}{n:Nat}(hn:∀cs∈css,cs.length=n){j i:Nat}{vs:List α}(hj:css[j]? =some vs)(hi:i<n):css.flatten[j * n+i]? =vs[i]? :=by
 induction css generalizing j with
 |nil=>simp at hj
 |cons c css ih=>
  have hc:=hn c (by simp)
  rcases j with _|j
  ·simp at hj
   subst hj
   rw[Nat.zero_mul,Nat.zero_add,List.flatten_cons,List.getElem?_append_left (by omega)]
  ·simp at hj
   rw[List.flatten_cons,Nat.succ_mul,List.getElem?_append_right (by omega),←ih (fun cs h=>hn cs (by simp[h])) hj]
   congr 1
   omega
theorem Zjf{α:Type}{css:List (List α)}{n:Nat}(hn:∀cs∈css,cs.length=n):css.flatten.length=css.length * n:=by
 induction css with
 |nil=>simp
 |cons c css ih=>rw[List.flatten_cons,Vx3,hn c (by simp),ih fun cs h=>hn cs (by simp[h]),List.length_cons,Nat.succ_mul];omega
theorem Zj9{css:List (List Value)}(h1:css.length=xs.length)(h3:∀(j:Nat) (x:α) (vs:List Value),xs[j]? =some x→css[j]? =some vs→Enc.rep F w x vs):∀cs∈css,cs.length=Enc.size α:=by
 intro cs hcs
 obtain⟨j,hj⟩:=List.mem_iff_getElem?.1 hcs
 have hl:=(List.getElem?_eq_some_iff.1 hj).1
 exact Enc.len (h3 j _ cs (Vx9 (by omega)) hj)
theorem RowO.row(h:RowO E F w B A c xs):Row (fun b=>F b∨∃a,A=some a∧b=a.block) w A xs:=by
 obtain⟨css,h1,⟨_,h2⟩,h3,h4⟩:=h
 intro hn
 rcases h2 with ⟨hv,h0⟩|⟨g,cap,cur,hv,_,hg,hnc,_,hsz,ht⟩
 ·omega
 ·injection hv with hA _ _
  subst hA
  refine⟨g,0,rfl,.inr ⟨_,rfl,rfl⟩,(Array.getElem?_eq_some_iff.1 hg).1,fun j x hx=>?_⟩
  have hj:=(List.getElem?_eq_some_iff.1 hx).1
  have hcj:css[j]? =some (css[j]'(by omega)):=Vx9 (by omega)
  have hr:=h3 j x _ hx hcj
  refine⟨_,Enc.mono hr fun b hb _=>.inl hb,fun i v hv=>?_⟩
  have hi:i<Enc.size α:=by rw[← Enc.len hr];exact(List.getElem?_eq_some_iff.1 hv).1
  have hfl:=Zip (Zj9 h1 h3) hcj hi
  rw[hv,←ht,List.getElem?_take]at hfl
  split at hfl
  ·rw[cell_of_row w g _ cur E (0,0) hg,Nat.zero_add]
   simpa using hfl
  ·cases hfl
theorem RowO.cells(h:RowO E F w B A c xs)(hn:0<xs.length):∃g,A=some ⟨g,0,none⟩∧Cells F w g 0 xs:=by
 obtain⟨css,h1,⟨_,h2⟩,h3,h4⟩:=h
 rcases h2 with ⟨hv,h0⟩|⟨g,cap,cur,hv,_,hg,hnc,_,hsz,ht⟩
 ·omega
 ·injection hv with hA _ _
  subst hA
  refine⟨g,rfl,fun j x hx=>?_⟩
  have hj:=(List.getElem?_eq_some_iff.1 hx).1
  have hcj:css[j]? =some (css[j]'(by omega)):=Vx9 (by omega)
  have hr:=h3 j x _ hx hcj
  refine⟨_,hr,fun i v hv=>?_⟩
  have hi:i<Enc.size α:=by rw[← Enc.len hr];exact(List.getElem?_eq_some_iff.1 hv).1
  have hfl:=Zip (Zj9 h1 h3) hcj hi
  rw[hv,←ht,List.getElem?_take]at hfl
  split at hfl
  ·rw[cell_of_row w g _ cur E (0,0) hg,Nat.zero_add]
   simpa using hfl
  ·cases hfl
def Src(F:Nat→Prop)(w:World)(A:Option Addr)(xs:List α):Prop:=0<xs.length→∃b o,A=some ⟨b,o,none⟩∧Cells F w b o xs
theorem Row.src(h:Row F w A xs):Src F w A xs:=fun hn=>by
 obtain⟨b,o,rfl,_,_,h3⟩:=h hn
 exact⟨b,o,rfl,h3⟩
theorem Zop{b o:Nat}:∀{ys:List α} {o:Nat},Cells F w b o ys→∃css:List (List Value),css.length=ys.length∧(∀ (j:Nat) (x:α) (vs:List Value),ys[j]? =some x→css[j]? =some vs→Enc.rep F w x vs)∧∀j u,css.flatten[j]? =some u→w.cell? ⟨b,o+j,none⟩=some u
 |[],_,_=>⟨[],rfl,fun j x vs h=>by simp at h,fun j u h=>by simp at h⟩
 |y::ys,o,h=>by
  obtain⟨vs,hr,hc⟩:=h 0 y rfl
  rw[Nat.zero_mul,Nat.add_zero]at hc
  have h2:=Cells.drop h 1
  rw[List.drop_one,List.tail_cons,Nat.one_mul]at h2
  obtain⟨css,c1,c2,c3⟩:=Zop (o:=o+Enc.size α) h2
  refine⟨vs::css,by simp[c1],fun j x us hx hu=>?_,fun j u hu=>?_⟩
  ·rcases j with _|j
   ·simp at hx hu
    subst hx hu
    exact hr
   ·simp at hx hu
    exact c2 j x us hx hu
  ·have hl:=Enc.len hr
   rw[List.flatten_cons]at hu
   rcases Nat.lt_or_ge j vs.length with hj|hj
   ·rw[List.getElem?_append_left hj]at hu
    exact hc j u hu
   ·rw[List.getElem?_append_right hj]at hu
    have:=c3 _ u hu
    rw[show o+Enc.size α+(j-vs.length)=o+j by omega]at this
    exact this
structure Slot (P:Program) (α:Type) [Enc α] (S E:TypeId) (z:Value) (bytes:Nat):Prop where
 under:P.underlying S=some (.slice E)
 info:(P.info? E).map (fun i=>(i.zero,i.size,i.bytes))=some (some z,Enc.size α,bytes)
 zero:z.cells.size=Enc.size α
 pos:0<Enc.size α
theorem ZiE{P:Program}{S:TypeId}{z:Value}{bytes:Nat}(hS:Slot P α S E z bytes)(ty:TypeId)(ho:RowO E F w B A c xs){A2:Option Addr}(c2:Nat)(hr:Src F w A2 ys)(hF:∀b,F b→b<w.heap.size)
  (hlen:(xs.length+ys.length) * (bytes+1)≤140737488355328) (hB:B≤w.heap.size):
  ∃A' c' w',(Builtin.append_ #[S,S] ty #[.slice A xs.length c,.slice A2 ys.length c2]).run P w=.ok (.slice A' (xs++ys).length c') w'∧RowO E F w' B A' c' (xs++ys)∧Below B w w'∧w.grownBy w' (A.map (·.block))∧
   (A'=A∨A'=some ⟨w.heap.size,0,none⟩):=by
 obtain⟨i,hi,hz,hsz,hby⟩:=info_parts hS.info
 obtain⟨css,h1,h2,h3,h4⟩:=ho
 have hn1:xs.length+ys.length≤(xs.length+ys.length) * (bytes+1):=Nat.le_mul_of_pos_right _ (by omega)
 have hn2:(xs.length+ys.length) * bytes≤(xs.length+ys.length) * (bytes+1):=Nat.mul_le_mul_left _ (by omega)
 have hl2:(xs++ys).length=xs.length+ys.length:=by simp
 rcases A2 with _|ad
 ·have hy:ys=[]:=by
   rcases Nat.eq_zero_or_pos ys.length with h0|h0
   ·exact List.eq_nil_of_length_eq_zero h0
   ·obtain⟨b,o,hA,_⟩:=hr h0
    cases hA
  subst hy
  refine⟨A,c,w,?_,by rw[List.append_nil];exact⟨css,h1,h2,h3,h4⟩,Below.refl _ _,⟨rfl,rfl,rfl,Vx8 _,fun _ _ _=>rfl⟩,.inl rfl⟩
  rcases h2.2 with ⟨hv,h0⟩|⟨g,cap,cur,hv,_,_,hnc,_⟩
  ·injection hv with e1 _ e3
   subst e1 e3
   have hx:xs=[]:=List.eq_nil_of_length_eq_zero h0
   subst hx
   simp[Builtin.append_,run_underlying hS.under,sizeOf,typeInfo,hi,Builtin.lenOf,Builtin.firstCells]
  ·injection hv with e1 _ e3
   subst e1 e3
   simp[Builtin.append_,run_underlying hS.under,sizeOf,typeInfo,hi,Builtin.lenOf,Builtin.firstCells,hnc,storeCells]
 ·obtain⟨dss,d1,d2,d3⟩:∃dss:List (List Value),dss.length=ys.length∧(∀ (j:Nat) (x:α) (vs:List Value),ys[j]? =some x→dss[j]? =some vs→Enc.rep F w x vs)∧∀j u,dss.flatten[j]? =some u→w.cell? (ad.add j)=some u:=by
   rcases Nat.eq_zero_or_pos ys.length with h0|h0
   ·have hy:ys=[]:=List.eq_nil_of_length_eq_zero h0
    subst hy
    exact⟨[],rfl,fun j x vs h=>by simp at h,fun j u h=>by simp at h⟩
   ·obtain⟨b,o,hA,hc⟩:=hr h0
    injection hA with hA
    subst hA
    obtain⟨dss,d1,d2,d3⟩:=Zop (o:=o) (b:=b) hc
    exact⟨dss,d1,d2,fun j u hu=>by rw[Zgm];exact d3 j u hu⟩
  have hone:∀u∈dss.flatten,u.oneCell'=true:=by
   intro u hu
   obtain⟨vs,hvs,hu⟩:=List.mem_flatten.1 hu
   obtain⟨j,hj⟩:=List.mem_iff_getElem?.1 hvs
   have hl:=(List.getElem?_eq_some_iff.1 hj).1
   exact Enc.one (d2 j _ vs (Vx9 (by omega)) hj) u hu
  have hfl:=Zjf (Zj9 d1 d2)
  rw[← hsz]at h2 hfl
  obtain⟨A',c',w',hrun,hown,hg,hA'⟩:=Zkd (P:=P) w B S ty E i z hS.under hi hz (by rw[hsz];exact hS.zero) (by rw[hsz];exact hS.pos) A xs.length c css.flatten h2 ad ys.length c2 dss.flatten
   (by rw[hfl,d1]) d3 hone (by unfold maxLen;omega) (by rw[hby];omega) hB
  have hF2:∀b,F b→b<w.heap.size→w'.heap[b]? =w.heap[b]? :=fun b hb hl=>hg.block b hl fun e=>by
   rcases A with _|a
   ·cases e
   ·simp only[Option.map_some,Option.some.injEq]at e
    subst e
    exact h4 a rfl hb
  refine⟨A',c',w',by rw[hrun,hl2],⟨css++dss,by simp[h1,d1],?_,?_,?_⟩,?_,hg,hA'⟩
  ·rw[hl2,List.flatten_append,←hsz]
   exact hown
  ·intro j x vs hx hv
   rcases Nat.lt_or_ge j xs.length with hj|hj
   ·rw[List.getElem?_append_left (by omega)]at hx hv
    exact Enc.kept (h3 j x vs hx hv) hF2
   ·rw[List.getElem?_append_right (by omega)]at hx hv
    rw[h1]at hv
    exact Enc.kept (d2 _ x vs hx hv) hF2
  ·rintro a rfl
   rcases hA' with hA'|hA'
   ·exact h4 a hA'.symm
   ·injection hA' with hA'
    subst hA'
    intro hf
    exact absurd (hF _ hf) (Nat.lt_irrefl _)
  ·exact(Below.refl B w).grown hg hB fun k hk=>by
    rcases A with _|a
    ·cases hk
    ·injection hk with hk
     subst hk
     exact(World.ownsRow.lt h2 _ rfl).1
end
section
variable{α:Type}[Enc α]{P:Program}{S E:TypeId}{z:Value}{bytes:Nat}{F:Nat→Prop}
end
def Soft(w:World)(b:Nat):Prop:=∃cs t,w.heap[b]? =some (.cells cs t (0,0))
theorem Soft.kept{w w':World}{b:Nat}(h:Soft w b)(hk:w'.heap[b]? =w.heap[b]?):Soft w' b:=by
 obtain⟨cs,t,h⟩:=h
 exact⟨cs,t,hk.trans h⟩
theorem Soft.lt{w:World}{b:Nat}(h:Soft w b):b<w.heap.size:=by
 obtain⟨cs,t,h⟩:=h
 exact(Array.getElem?_eq_some_iff.1 h).1
def OwnQ{α:Type}[Enc α](E:TypeId)(w:World)(B0 B:Nat)(A:Option Addr)(c:Nat)(xs:List α):Prop:=
 ∃F,RowO E F w B A c xs∧∀b,F b→B0≤b∧Soft w b
abbrev OwnR {α:Type} [Enc α] (E:TypeId) (w:World) (B:Nat) (A:Option Addr) (c:Nat) (xs:List α):Prop:=OwnQ E w B B A c xs
section
variable{α:Type}[Enc α]{P:Program}{S E:TypeId}{z:Value}{bytes:Nat}{w w':World}{B0 B0' B B':Nat}{A:Option Addr}{c:Nat}{xs ys:List α}
theorem OwnR.nil(w:World)(B:Nat):OwnR E w B none 0 ([]:List α):=⟨fun _=>False,RowO.nil _ w B,fun b h=>h.elim⟩
theorem OwnQ.nil(w:World)(B0 B:Nat):OwnQ E w B0 B none 0 ([]:List α):=⟨fun _=>False,RowO.nil _ w B,fun b h=>h.elim⟩
theorem OwnQ.bel(h:OwnQ E w B0 B A c xs)(hb:Below w.heap.size w w'):OwnQ E w' B0 B A c xs:=by
 obtain⟨F,h1,h2⟩:=h
 exact⟨F,h1.bel hb,fun b hf=>⟨(h2 b hf).1,(h2 b hf).2.kept (hb.block b (h2 b hf).2.lt)⟩⟩
theorem OwnQ.alloc(h:OwnQ E w B0 B A c xs)(o:Obj):OwnQ E (w.alloc o) B0 B A c xs:=h.bel (Zad w o)
theorem OwnQ.base2(h:OwnQ E w B0 B A c xs)(hB0:B0'≤B0)(hB:B'≤B):OwnQ E w B0' B' A c xs:=by
 obtain⟨F,h1,h2⟩:=h
 exact⟨F,h1.base hB,fun b hf=>⟨Vx1 hB0 (h2 b hf).1,(h2 b hf).2⟩⟩
theorem OwnR.base(h:OwnR E w B A c xs)(hB:B'≤B):OwnR E w B' A c xs:=OwnQ.base2 h hB hB
theorem OwnQ.cap(h:OwnQ E w B0 B A c xs):xs.length≤c∧c≤maxLen:=h.choose_spec.1.cap
theorem OwnR.row(h:OwnR E w B A c xs):Row (fun b=>B≤b) w A xs:=by
 obtain⟨F,h1,h2⟩:=h
 refine h1.row.mono ?_
 rintro b (hb|⟨a,ha,rfl⟩) _
 ·exact(h2 b hb).1
 ·exact(h1.blk a ha).1
theorem OwnQ.blk(h:OwnQ E w B0 B A c xs):∀a,A=some a→B≤a.block∧a.block<w.heap.size:=h.choose_spec.1.blk
theorem ZiD(hS:Slot P α S E z bytes)(ty:TypeId)(ho:OwnQ E w B0 B A c xs){A2:Option Addr}(c2:Nat)(F2:Nat→Prop)(hr:Src F2 w A2 ys)(hF:∀b,F2 b→B0≤b∧Soft w b∧∀a,A=some a→b≠a.block)
  (hlen:(xs.length+ys.length) * (bytes+1)≤140737488355328) (hB:B≤w.heap.size):
  ∃A' c' w',(Builtin.append_ #[S,S] ty #[.slice A xs.length c,.slice A2 ys.length c2]).run P w=.ok (.slice A' (xs++ys).length c') w'∧OwnQ E w' B0 B A' c' (xs++ys)∧Below B w w'∧w.grownBy w' (A.map (·.block)):=by
 obtain⟨F,h1,h2⟩:=ho
 have h3:RowO E (fun b=>F b∨F2 b) w B A c xs:=h1.mono (fun b hb _=>.inl hb) fun a ha hf=>by
  rcases hf with hf|hf
  ·exact h1.apart a ha hf
  ·exact(hF _ hf).2.2 a ha rfl
 have hr2:Src (fun b=>F b∨F2 b) w A2 ys:=fun hn=>by
  obtain⟨b,o,hA,hc⟩:=hr hn
  exact⟨b,o,hA,hc.mono fun b hb _=>.inr hb⟩
 have hs:∀b,F b∨F2 b→B0≤b∧Soft w b:=by
  rintro b (hb|hb)
  ·exact h2 b hb
  ·exact⟨(hF b hb).1,(hF b hb).2.1⟩
 obtain⟨A',c',w',hrun,ho',hb,hg,_⟩:=ZiE hS ty h3 c2 hr2 (fun b hb=>(hs b hb).2.lt) hlen hB
 refine⟨A',c',w',hrun,⟨_,ho',fun b hb=>⟨(hs b hb).1,(hs b hb).2.kept (hg.block b (hs b hb).2.lt fun e=>?_)⟩⟩,hb,hg⟩
 rcases A with _|a
 ·cases e
 ·simp only[Option.map_some,Option.some.injEq]at e
  subst e
  exact h3.apart a rfl hb
theorem ZsM(hS:Slot P α S E z bytes){o:Oper}{a:Act}{K:Act→World→Prop}{Q:Exit→Act→World→Prop}(s x:Operand)
  (hop:o.op=.call { callee:=.builtin .append,args:=#[s,x],argTypes:=#[S,S] })
  (B0 B:Nat) (A A2:Option Addr) (n m c c2:Nat) (xs ys:List α) (F2:Nat→Prop) (hs:a.eval s=.slice A n c) (hx:a.eval x=.slice A2 m c2) (hn:n=xs.length) (hm:m=ys.length)
  (ho:OwnQ E w B0 B A c xs) (hr:Src F2 w A2 ys) (hF:∀b,F2 b→B0≤b∧Soft w b∧∀a,A=some a→b≠a.block) (hlen:(xs.length+ys.length) * (bytes+1)≤140737488355328) (hB:B≤w.heap.size)
  (hK:∀A' c' w',OwnQ E w' B0 B A' c' (xs++ys)→Below B w w'→K (a.put o.dst (.slice A' (xs++ys).length c')) w'):o.wp P a w K Q:=by
 subst hn hm
 obtain⟨A',c',w',hrun,h1,h2,_⟩:=ZiD hS o.type ho c2 F2 hr hF hlen hB
 unfold Oper.wp execOp
 simp only[hop,resolve,invoke,builtin,Sem.run_bind,Sem.run_pure,Result.andThen_ok,List.map_toArray,List.map_cons,List.map_nil,hs,hx,hrun]
 exact hK A' c' w' h1 h2
theorem Zgc(hS:Slot P α S E z bytes){ops:Array Oper}{o:Oper}{a:Act}{K:Act→World→Prop}{Q:Exit→Act→World→Prop}{X:Prop}(hg:o.guard=none)(s x:Operand)
  (hop:o.op=.call { callee:=.builtin .append,args:=#[s,x],argTypes:=#[S,S] })
  (B0 B:Nat) (A A2:Option Addr) (n m c c2:Nat) (xs ys:List α) (F2:Nat→Prop) (hs:a.eval s=.slice A n c) (hx:a.eval x=.slice A2 m c2) (hn:n=xs.length) (hm:m=ys.length)
  (ho:OwnQ E w B0 B A c xs) (hr:Src F2 w A2 ys) (hF:∀b,F2 b→B0≤b∧Soft w b∧∀a,A=some a→b≠a.block) (hlen:(xs.length+ys.length) * (bytes+1)≤140737488355328) (hB:B≤w.heap.size)
  (hK:∀A' c' w',OwnQ E w' B0 B A' c' (xs++ys)→Below B w w'→K (a.put o.dst (.slice A' (xs++ys).length c')) w'):
  if Region.wanted o (yielded ops a.tmps)=true then Oper.wp P o a w K Q else X:=by
 have hw:Region.wanted o (yielded ops a.tmps)=true:=by simp[Region.wanted,hg]
 rw[if_pos hw]
 exact ZsM hS s x hop B0 B A A2 n m c c2 xs ys F2 hs hx hn hm ho hr hF hlen hB hK
theorem ZbG(hS:Slot P α S E z bytes){ops:Array Oper}{rest:List Oper}{o:Oper}{a:Act}{Q:Exit→Act→World→Prop}(hg:Region.wanted o (yielded ops a.tmps)=true)(s x:Operand)
  (hop:o.op=.call { callee:=.builtin .append,args:=#[s,x],argTypes:=#[S,S] })
  (B0 B:Nat) (A A2:Option Addr) (n m c c2:Nat) (xs ys:List α) (F2:Nat→Prop) (hs:a.eval s=.slice A n c) (hx:a.eval x=.slice A2 m c2) (hn:n=xs.length) (hm:m=ys.length)
  (ho:OwnQ E w B0 B A c xs) (hr:Src F2 w A2 ys) (hF:∀b,F2 b→B0≤b∧Soft w b∧∀a,A=some a→b≠a.block) (hlen:(xs.length+ys.length) * (bytes+1)≤140737488355328) (hB:B≤w.heap.size)
  (hK:∀A' c' w',OwnQ E w' B0 B A' c' (xs++ys)→Below B w w'→wpList P ops Q rest (a.put o.dst (.slice A' (xs++ys).length c')) w'):wpList P ops Q (o::rest) a w:=
 wpList_step fun _ hK2=>by
  rw[if_pos hg]
  exact ZsM hS s x hop B0 B A A2 n m c c2 xs ys F2 hs hx hn hm ho hr hF hlen hB fun A' c' w' h1 h2=>hK2 _ _ (hK A' c' w' h1 h2)
end
section
variable{α:Type}[Enc α]{E:TypeId}{F:Nat→Prop}{w:World}{B:Nat}{A:Option Addr}{c:Nat}{xs:List α}
theorem RowO.src(h:RowO E F w B A c xs):Src F w A xs:=fun hn=>by
 obtain⟨g,hA,hc⟩:=h.cells hn
 exact⟨g,0,hA,hc⟩
theorem Src.take(h:Src F w A xs)(k:Nat):Src F w A (xs.take k):=fun hn=>by
 simp only[List.length_take]at hn
 obtain⟨b,o,rfl,hc⟩:=h (by omega)
 exact⟨b,o,rfl,hc.take k⟩
theorem Src.cut(h:Src F w A xs)(k cap:Nat)(hk:k≤xs.length)(hc:xs.length≤cap):Src F w (if cap=k then A else A.map (·.add (k * Enc.size α))) (xs.drop k):=fun hn=>by
 simp only[List.length_drop]at hn
 obtain⟨b,o,rfl,h3⟩:=h (by omega)
 rw[if_neg (by omega)]
 exact⟨b,o+k * Enc.size α,by rw[Option.map_some,Zgm],h3.drop k⟩
theorem Src.bel{w':World}(h:Src F w A xs)(hb:Below w.heap.size w w'):Src F w' A xs:=fun hn=>by
 obtain⟨b,o,rfl,hc⟩:=h hn
 exact⟨b,o,rfl,hc.bel hb⟩
end
theorem Own.soft{E:TypeId}{w:World}{B:Nat}{A:Option Addr}{c:Nat}{l:List UInt8}(h:Own E w B A c l):∀a,A=some a→B≤a.block∧Soft w a.block:=by
 rintro a rfl
 rcases h.2 with ⟨hv,_⟩|⟨g,cap,cur,hv,hb,hg,_⟩
 ·injection hv with h1 _ _;cases h1
 ·injection hv with h1 _ _
  injection h1 with h1
  subst h1
  exact⟨hb,cur,E,hg⟩
structure Pr where
 k:Dg
 v:List UInt8
 deriving DecidableEq
instance:Enc Pr:=Enc.by_ fun p=>(p.k,p.v)
theorem Zae{w:World}{g:Nat}{l:List Value}{t:TypeId}(h:w.heap[g]? =some (.cells l.toArray t (0,0))):w.rangeAt g 0 l:=fun j v hv=>by
 rw[cell_of_row w g (0+j) l.toArray t (0,0) h,Nat.zero_add]
 simpa using hv
theorem Zao(w:World):Below w.heap.size w w.drew:=below_drewN (Below.refl _ _) 1
theorem Zab{w w':World}{g o:Nat}{l:List Value}(hb:Below w.heap.size w w')(h:w.rangeAt g o l):w'.rangeAt g o l:=Zak h (hb.block g)
section
variable{P:Program}
theorem Yb1{ops:Array Oper}{S:World→Prop}{op:Oper}{a:Act}(hw:Region.wanted op (yielded ops a.tmps)=true)(t:TypeId)(parts:Array (Nat×Operand))(ho:op.op=.build t parts)
  (cells:Array Value) (vs:List (Nat×Value)) (h:P.built t vs=some cells) (hv:parts.toList.map (fun (i,x)=>(i,a.eval x))=vs):YieldsIf P ops S op (.agg cells) a:=
 .inl ⟨hw,fun w hw'=>by
  replace h:P.built t (parts.map fun (i,x)=>(i,a.eval x)).toList=some cells:=by rw[Array.toList_map,hv];exact h
  unfold execOp
  simp only[ho,Sem.run_bind,run_build w t _ cells h,Result.andThen_ok,Sem.run_pure]⟩
section
variable{P:Program}{ops:Array Oper}{Q:Exit→Act→World→Prop}{md:Region.Mode}{S:World→Prop}{fuel:Nat}{listed:Array Bool}{a:Act}{w:World}
def Tk(md:Region.Mode)(ops:Array Oper)(listed:Array Bool)(i:Nat):Bool:=Region.noSelect ops&&(Region.free md ops listed i&&(Region.ready md ops listed).contains i)
theorem tkT{i:Nat}{oi:Oper}{v:Value}(hs:Tk md ops listed i=true)(hi:ops[i]? =some oi)(hQ:∀c a w,Q (.panic c) (a.put oi.dst v) w→Q (.panic c) a w)(hy:YieldsIf P ops S oi v a)(hS:S w)
  (h:wpAnyH P md ops Q S fuel (listed.setIfInBounds i true) (a.put oi.dst v) w):wpAnyH P md ops Q S (fuel+1) listed a w:=by
 unfold Tk at hs
 simp only[Bool.and_eq_true]at hs
 exact wpAnyH_take hi hs.1 hs.2.1 hs.2.2 hQ hy hS h
theorem tkH(i:Nat){oi:Oper}{v:Value}(hi:ops[i]? =some oi)(hy:YieldsIf P ops S oi v a)(h:wpAnyH P md ops Q S fuel (listed.setIfInBounds i true) (a.put oi.dst v) w)(hs:Tk md ops listed i=true:=by kernel_rfl)(hQ:∀c a w,Q (.panic c) (a.put oi.dst v) w→Q (.panic c) a w:=by exact fun _ _ _ h=>h)(hS:S w:=by assumption):wpAnyH P md ops Q S (fuel+1) listed a w:=tkT hs hi hQ hy hS h
theorem tkW(i j:Nat){o p:Oper}{v u:Value}(h:wpAnyH P md ops Q S fuel ((listed.setIfInBounds i true).setIfInBounds j true) ((a.put o.dst v).put p.dst u) w)(hi:ops[i]? =some o:=by rfl)(y:YieldsIf P ops S o v a:=by first|exact Or.inr ⟨by rfl,rfl⟩|(refine Or.inl ⟨by rfl,?_⟩;intro W hSw;(try simp only[sQ]);go_simp;first|done|(with_reducible rfl)))(hj:ops[j]? =some p:=by rfl)(z:YieldsIf P ops S p u (a.put o.dst v):=by first|exact Or.inr ⟨by rfl,rfl⟩|(refine Or.inl ⟨by rfl,?_⟩;intro W hSw;(try simp only[sQ]);go_simp;first|done|(with_reducible rfl)))
  (hs:Tk md ops listed i=true:=by kernel_rfl) (ht:Tk md ops (listed.setIfInBounds i true) j=true:=by kernel_rfl) (q:∀c a w,Q (.panic c) (a.put o.dst v) w→Q (.panic c) a w:=by exact fun _ _ _ h=>h) (r:∀c a w,Q (.panic c) (a.put p.dst u) w→Q (.panic c) a w:=by exact fun _ _ _ h=>h) (hS:S w:=by assumption):
  wpAnyH P md ops Q S (fuel+2) listed a w:=tkT hs hi q y hS (tkT ht hj r z hS h)
theorem tkL(i:Nat){oi:Oper}(v:Value)(hi:ops[i]? =some oi)(hy:∀w,S w→(execOp a.eval oi).run P w=.ok (.value v) w)(h:wpAnyH P md ops Q S fuel (listed.setIfInBounds i true) (a.put oi.dst v) w)(hw:Region.wanted oi (yielded ops a.tmps)=true:=by rfl)(hs:Tk md ops listed i=true:=by kernel_rfl)(hQ:∀c a w,Q (.panic c) (a.put oi.dst v) w→Q (.panic c) a w:=by exact fun _ _ _ h=>h)(hS:S w:=by assumption):wpAnyH P md ops Q S (fuel+1) listed a w:=tkT hs hi hQ (Or.inl ⟨hw,hy⟩) hS h
theorem tkP(i:Nat){oi:Oper}{v:Value}(hi:ops[i]? =some oi)(h:wpAnyH P md ops Q S fuel (listed.setIfInBounds i true) (a.put oi.dst v) w)(hy:∀w,S w→(execOp a.eval oi).run P w=.ok (.value v) w:=by intro W hSw;go_simp;first|done|(with_reducible rfl))(hw:Region.wanted oi (yielded ops a.tmps)=true:=by rfl)(hs:Tk md ops listed i=true:=by kernel_rfl)(hQ:∀c a w,Q (.panic c) (a.put oi.dst v) w→Q (.panic c) a w:=by exact fun _ _ _ h=>h)(hS:S w:=by assumption):wpAnyH P md ops Q S (fuel+1) listed a w:=tkT hs hi hQ (Or.inl ⟨hw,hy⟩) hS h
theorem tkM(i:Nat){oi:Oper}{ty:TypeId}{x:Operand}{b o:Nat}{cs:List Value}{d:TypeDesc}(hi:ops[i]? =some oi)(hR:∀w,S w→w.rangeAt b o cs)(hu:P.underlying ty=some d)(hz:(P.info? ty).map (·.size)=some cs.length)(h:wpAnyH P md ops Q S fuel (listed.setIfInBounds i true) (a.put oi.dst (.agg cs.toArray)) w)
  (ho:oi.op=.load ty x:=by rfl) (hx:a.eval x=.pointer (some ⟨b,o,none⟩):=by rfl) (hd:d.isRow=true:=by rfl) (hw:Region.wanted oi (yielded ops a.tmps)=true:=by rfl) (hs:Tk md ops listed i=true:=by kernel_rfl) (hQ:∀c a w,Q (.panic c) (a.put oi.dst (.agg cs.toArray)) w→Q (.panic c) a w:=by exact fun _ _ _ h=>h) (hS:S w:=by assumption):wpAnyH P md ops Q S (fuel+1) listed a w:=tkT hs hi hQ (yieldsIf_load_mid hw ty x ho b o hx cs d hR hu hd hz) hS h
theorem rdH(i:Nat){o:Oper}(ho:ops[i]? =some o)(h:∀K':Act→World→Prop,Shut (∀ a w,S w→(S w→wpAnyH P md ops Q S fuel (listed.setIfInBounds i true) a w)→K' a w)→if Region.wanted o (yielded ops a.tmps)=true then Oper.wp P o a w K' Q else K' (a.put o.dst undef) w)(hr:Region.ready md ops listed=[i]:=by kernel_rfl):wpAnyH P md ops Q S (fuel+1) listed a w:=
 wpAnyH_ready hr (by simp) (AllReadyH.cons ho h AllReadyH.nil)
theorem Ynx(i j:Nat){o p:Oper}(io:ops[i]? =some o)(jo:ops[j]? =some p)
  (h:∀K':Act→World→Prop,Shut (∀ a w,S w→(S w→wpAnyH P md ops Q S fuel (listed.setIfInBounds i true) a w)→K' a w)→if Region.wanted o (yielded ops a.tmps)=true then Oper.wp P o a w K' Q else K' (a.put o.dst undef) w)
  (h2:∀K':Act→World→Prop,Shut (∀ a w,S w→(S w→wpAnyH P md ops Q S fuel (listed.setIfInBounds j true) a w)→K' a w)→if Region.wanted p (yielded ops a.tmps)=true then Oper.wp P p a w K' Q else K' (a.put p.dst undef) w)
  (hr:Region.ready md ops listed=[i,j]:=by kernel_rfl):wpAnyH P md ops Q S (fuel+1) listed a w:=wpAnyH_ready hr (by simp) (AllReadyH.cons io h (AllReadyH.cons jo h2 AllReadyH.nil))
theorem tkC(i:Nat){oi:Oper}{v u:Value}{p:Addr}{w0:World}(hi:ops[i]? =some oi)(c:w0.cell? p=some u)(h:wpAnyH P md ops Q (fun w'=>Below w0.heap.size w0 w') fuel (listed.setIfInBounds i true) (a.put oi.dst v) w)
  (hy:w0.cell? p=some u→∀w',Below w0.heap.size w0 w'→(execOp a.eval oi).run P w'=.ok (.value v) w':=by intro c W hSw;have hCell:=(hSw.cell (Vx5 _ _ c)).trans c;go_simp;first|done|(with_reducible rfl)) (hw:Region.wanted oi (yielded ops a.tmps)=true:=by rfl)
  (hs:Tk md ops listed i=true:=by kernel_rfl) (hQ:∀c a w,Q (.panic c) (a.put oi.dst v) w→Q (.panic c) a w:=by exact fun _ _ _ h=>h) (hS:Below w0.heap.size w0 w:=by assumption):
  wpAnyH P md ops Q (fun w'=>Below w0.heap.size w0 w') (fuel+1) listed a w:=tkT hs hi hQ (Or.inl ⟨hw,hy c⟩) hS h
theorem tkF(i:Nat){oi:Oper}{v u:Value}{p:Addr}(c:∀w,S w→w.cell? p=some u)(hi:ops[i]? =some oi)(h:wpAnyH P md ops Q S fuel (listed.setIfInBounds i true) (a.put oi.dst v) w)
  (hy:(∀ w,S w→w.cell? p=some u)→∀w',S w'→(execOp a.eval oi).run P w'=.ok (.value v) w':=by intro c W hSw;have hCell:=c W hSw;go_simp;first|done|(with_reducible rfl)) (hw:Region.wanted oi (yielded ops a.tmps)=true:=by rfl)
  (hs:Tk md ops listed i=true:=by kernel_rfl) (hQ:∀c a w,Q (.panic c) (a.put oi.dst v) w→Q (.panic c) a w:=by exact fun _ _ _ h=>h) (hS:S w:=by assumption):
  wpAnyH P md ops Q S (fuel+1) listed a w:=tkT hs hi hQ (Or.inl ⟨hw,hy c⟩) hS h
theorem dnN(h:Q .normal a w)(hr:Region.ready md ops listed=[]:=by kernel_rfl):wpAnyH P md ops (NoPanic Q) S fuel listed a w:=wpAnyH_done hr (NoPanic.normal h) fuel
theorem rgB{id:Nat}(h:Below w.heap.size w w.drew→wpAnyH P .any ops (NoPanic Q) (fun w'=>Below w.heap.size w w') ops.size (Array.replicate ops.size false) a w.drew)(hm:P.follows .mixedOrders=true:=by kernel_rfl):(Code.region id ops true).wp P Q a w:=
 wp_region_noPanic (wp_region_held_drew hm (Zao w) h)
theorem kB{K R:Act→World→Prop}{w1 w2:World}(hK:Shut (∀ a w',Below w.heap.size w w'→(Below w.heap.size w w'→R a w')→K a w'))(h1:Below w.heap.size w w1)(h2:Below w1.heap.size w1 w2)(h:Below w.heap.size w w2→R a w2):K a w2:=hK.out a w2 (h1.trans (h2.mono h1.size)) h
theorem clB{o:Oper}{v:Value}{f:FuncId}{args:Array Value}{w0:World}{K R:Act→World→Prop}{X:Prop}(hK:Shut (∀ a w',Below w0.heap.size w0 w'→(Below w0.heap.size w0 w'→R a w')→K a w'))
  (hC:Calls P f args w fun e w'=>e=.returned v∧Below w.heap.size w w') (h:∀w',Below w.heap.size w w'→Below w0.heap.size w0 w'→R (a.put o.dst v) w') (hHeld:Below w0.heap.size w0 w:=by assumption)
  (hw:Region.wanted o (yielded ops a.tmps)=true:=by rfl) (he:(execOp a.eval o).run P w=.ok (.enter f args) w:=by go_simp;first|done|rfl):if Region.wanted o (yielded ops a.tmps)=true then Oper.wp P o a w K Q else X:=by
 rw[if_pos hw]
 unfold Oper.wp
 rw[he]
 exact hC.mono fun e w' ⟨h1,h2⟩=>by subst h1;exact kB hK hHeld h2 (h w' h2)
theorem rdC(i:Nat){o:Oper}{v:Value}{f:FuncId}{args:Array Value}{w0:World}(ho:ops[i]? =some o)(hC:Calls P f args w fun e w'=>e=.returned v∧Below w.heap.size w w')
  (h:∀w',Below w.heap.size w w'→Below w0.heap.size w0 w'→wpAnyH P md ops Q (fun w'=>Below w0.heap.size w0 w') fuel (listed.setIfInBounds i true) (a.put o.dst v) w') (hHeld:Below w0.heap.size w0 w:=by assumption) (hr:Region.ready md ops listed=[i]:=by kernel_rfl)
  (hw:Region.wanted o (yielded ops a.tmps)=true:=by rfl) (he:(execOp a.eval o).run P w=.ok (.enter f args) w:=by go_simp;first|done|rfl):wpAnyH P md ops Q (fun w'=>Below w0.heap.size w0 w') (fuel+1) listed a w:=
 rdH i ho (fun K hK=>clB hK hC h hHeld hw he) hr
theorem lDr{ops:Array Oper}{rest:List Oper}{o:Oper}{a:Act}{w:World}{Q:Exit→Act→World→Prop}{ty:TypeId}{x:Operand}{b i:Nat}{cs:List Value}{d:TypeDesc}(hS:w.rangeAt b i cs)(hi:(P.info? ty).map (·.size)=some cs.length)(hu:P.underlying ty=some d)(h:wpList P ops Q rest (a.put o.dst (.agg cs.toArray)) w)
  (ho:o.op=.load ty x:=by with_unfolding_all rfl) (hx:a.eval x=.pointer (some ⟨b,i,none⟩):=by with_unfolding_all rfl) (hw:Region.wanted o (yielded ops a.tmps)=true:=by with_unfolding_all rfl) (hd:d.isRow=true:=by with_unfolding_all rfl):wpList P ops Q (o::rest) a w:=
 wpList_step fun K hK=>by
  rw[if_pos hw]
  unfold Oper.wp execOp
  simp only[ho,hx,Instr.loadAt,Instr.sureAddr,Sem.run_bind,Sem.run_pure,Result.andThen_ok,run_loadVar_mid w b i ty cs d hS hu hd hi]
  exact hK _ _ h
end
theorem Zaf{ops:Array Oper}{rest:List Oper}{o:Oper}{a:Act}{w:World}{Q:Exit→Act→World→Prop}(hw:Region.wanted o (yielded ops a.tmps)=true)(t:TypeId)(parts:Array (Nat×Operand))(ho:o.op=.build t parts)
  (cells:Array Value) (vs:List (Nat×Value)) (h:P.built t vs=some cells) (hv:parts.toList.map (fun (i,x)=>(i,a.eval x))=vs) (hK:wpList P ops Q rest (a.put o.dst (.agg cells)) w):wpList P ops Q (o::rest) a w:=
 wpList_step fun _ hK2=>by
  replace h:P.built t (parts.map fun (i,x)=>(i,a.eval x)).toList=some cells:=by rw[Array.toList_map,hv];exact h
  rw[if_pos hw]
  unfold Oper.wp execOp
  simp only[ho,Sem.run_bind,run_build w t _ cells h,Result.andThen_ok,Sem.run_pure]
  exact hK2 _ _ hK
def lay(cs:List Value)(off:Nat)(vs:List Value):List Value:=cs.take off++vs++cs.drop (off+vs.length)
theorem Zrr(off:Nat):∀(vs:List Value) (s:Nat) (cs:Array Value),off+s+vs.length≤cs.size→((vs.zipIdx s).foldl (fun cs (c,j)=>cs.setIfInBounds (off+j) c) cs).toList=lay cs.toList (off+s) vs
 |[],s,cs,h=>by simp[lay]
 |v::vs,s,cs,h=>by
  simp only[List.length_cons]at h
  rw[List.zipIdx_cons,List.foldl_cons]
  have ih:=Zrr off vs (s+1) (cs.setIfInBounds (off+s) v) (by rw[Array.size_setIfInBounds];omega)
  rw[ih]
  simp only[lay,Array.toList_setIfInBounds,List.length_cons]
  have hl:off+s<cs.toList.length:=by rw[Array.length_toList];omega
  rw[show off+(s+1)=off+s+1 by omega]
  have e1:(cs.toList.set (off+s) v).take (off+s+1)=cs.toList.take (off+s)++[v]:=by
   rw[List.take_set,Vy5 hl,List.set_append_right _ _ (by simp;omega)]
   rw[show off+s-(cs.toList.take (off+s)).length=0 by rw[List.length_take];omega]
   rfl
  have e2:(cs.toList.set (off+s) v).drop (off+s+1+vs.length)=cs.toList.drop (off+s+(vs.length+1)):=by
   rw[List.drop_set_of_lt (by omega)]
   congr 1;omega
  rw[e1,e2]
  simp
theorem ZaQ{place:Nat→Option (Nat×Nat)}{cells:Array Value}{i off:Nat}{v:Value}{rest:List (Nat×Value)}(hp:place i=some (off,v.cells.size))(hl:off+v.cells.size≤cells.size):
  Instr.fill place cells ((i,v)::rest)=Instr.fill place (lay cells.toList off v.cells.toList).toArray rest:=by
 rw[Instr.fill,hp]
 simp only
 rw[if_neg (by simp;omega)]
 congr 1
 apply Array.ext'
 have h:=Zrr off v.cells.toList 0 cells (by simpa using hl)
 have e:v.cells.zipIdx=(v.cells.toList.zipIdx 0).toArray:=by
  apply Array.ext'
  simp
 rw[e,←Array.foldl_toList]
 simpa using h
end
theorem ZlJ{P:Program}{α:Type}[Enc α]{S E:TypeId}{z:Value}{bytes:Nat}(hS:Slot P α S E z bytes)(hsm:Enc.size α≤16777216)(cs:List Value)(hcs:cs.length=Enc.size α)(v:Value)(hv:v.cells=cs.toArray)(w:World):
  (Instr.buildSlice S 1 #[(0,v)]).run P w=.ok (.slice (some ⟨w.heap.size,0,none⟩) 1 1) (w.alloc (.cells cs.toArray E)):=by
 obtain⟨i,hi,hz,hsz,hby⟩:=info_parts hS.info
 have hsv:v.cells.size=Enc.size α:=by rw[hv,Vx7,hcs]
 have hpos:=hS.pos
 refine run_buildSlice w S E 1 #[(0,v)] _ i z hS.under hi hz (by omega) (by omega) ?_
 rw[show (#[(0,v)]:Array (Nat×Value)).toList=[(0,v)] from rfl,ZaQ (off:=0) (by simp[hsv,hsz]) (by simp;omega)]
 rw[Instr.fill,hv]
 congr 2
 simp only[lay,List.take_zero,List.nil_append,Array.toList_map,Array.toList_range]
 rw[List.drop_of_length_le (by simp;omega)]
 simp
theorem Zea{P:Program}{α:Type}[Enc α]{S E:TypeId}{z:Value}{bytes:Nat}(hS:Slot P α S E z bytes)(hsm:Enc.size α≤16777216){w:World}{o:Oper}{a:Act}{K:Act→World→Prop}{Q:Exit→Act→World→Prop}
  (x:Operand) (hop:o.op=.buildSlice S 1 #[(0,x)]) (cs:List Value) (hx:(a.eval x).cells=cs.toArray) (hcs:cs.length=Enc.size α)
  (hK:K (a.put o.dst (.slice (some ⟨w.heap.size,0,none⟩) 1 1)) (w.alloc (.cells cs.toArray E))):o.wp P a w K Q:=by
 unfold Oper.wp execOp
 simp only[hop,List.map_toArray,List.map_cons,List.map_nil,Sem.run_bind,ZlJ hS hsm cs hcs _ hx w,Result.andThen_ok]
 exact hK
theorem ZbE{P:Program}{α:Type}[Enc α]{S E:TypeId}{z:Value}{bytes:Nat}(hS:Slot P α S E z bytes)(hsm:Enc.size α≤16777216){w:World}{ops:Array Oper}{o:Oper}{a:Act}{K:Act→World→Prop}{Q:Exit→Act→World→Prop}{X:Prop}(hg:o.guard=none)
  (x:Operand) (hop:o.op=.buildSlice S 1 #[(0,x)]) (cs:List Value) (hx:(a.eval x).cells=cs.toArray) (hcs:cs.length=Enc.size α)
  (hK:K (a.put o.dst (.slice (some ⟨w.heap.size,0,none⟩) 1 1)) (w.alloc (.cells cs.toArray E))):if Region.wanted o (yielded ops a.tmps)=true then Oper.wp P o a w K Q else X:=by
 have hw:Region.wanted o (yielded ops a.tmps)=true:=by simp[Region.wanted,hg]
 rw[if_pos hw]
 exact Zea hS hsm x hop cs hx hcs hK
theorem ZrE{α:Type}(n:Nat)(p:Nat→α→Prop)(h:∀r,r<n→∃x,p r x):∃l:List α,l.length=n∧∀r x,l[r]? =some x→p r x:=by
 induction n with
 |zero=>exact⟨[],rfl,fun r x hx=>by simp at hx⟩
 |succ n ih=>
  obtain⟨l,hl,hp⟩:=ih fun r hr=>h r (by omega)
  obtain⟨x,hx⟩:=h n (by omega)
  refine⟨l++[x],by simp[hl],fun r y hy=>?_⟩
  rcases Nat.lt_or_ge r n with hr|hr
  ·rw[List.getElem?_append_left (by omega)]at hy
   exact hp r y hy
  ·rw[List.getElem?_append_right (by omega),hl]at hy
   have h0:r-n=0:=by
    rcases Nat.eq_zero_or_pos (r-n) with h0|h0
    ·exact h0
    ·rw[List.getElem?_eq_none (by simp;omega)]at hy;cases hy
   rw[h0]at hy
   simp at hy
   have hrn:r=n:=by omega
   rw[hrn,←hy]
   exact hx
structure Opens (P:Program) (t:TypeId) (α:Type) [Enc α]:Prop where
 cells:P.cellsOf t=Enc.size α
 pos:0<Enc.size α
 opens:∀{H:Type} {enc:TypeId×Value→H} {w:World} {base:Nat} {sp:Nat→Bool} {held:Bool} {fuel:Nat} {cs:List Value} {x:DataW H×List MemPlace},
  DataW.trod enc P w base sp held fuel t cs=some x→∃a:α,Enc.rep (fun b=>b<w.heap.size) w a cs
section
variable{P:Program}{t e:TypeId}
theorem Opens.u8(ht:P.underlying t=some (.int .u8))(hc:P.cellsOf t=1):Opens P t UInt8:=⟨hc,by decide,fun h=>by
 obtain⟨n,rfl,_,hw⟩:=DataW.trod_int ht h
 have hb:=bounds_u8 hw
 refine⟨UInt8.ofNat n.toNat,?_⟩
 show [Value.int .u8 n]=[bv (UInt8.ofNat n.toNat)]
 unfold bv
 congr 2
 simp
 omega⟩
theorem Opens.bool(ht:P.underlying t=some .bool)(hc:P.cellsOf t=1):Opens P t Bool:=⟨hc,by decide,fun h=>by
 obtain⟨b,rfl,_⟩:=DataW.trod_bool ht h
 exact⟨b,rfl⟩⟩
theorem Opens.i64(ht:P.underlying t=some (.int .i64))(hc:P.cellsOf t=1):Opens P t Int:=⟨hc,by decide,fun h=>by
 obtain⟨n,rfl,_,hw⟩:=DataW.trod_int ht h
 refine⟨n,rfl,?_⟩
 simp[Lit.wf,IntKind.min,IntKind.max,IntKind.signed,IntKind.bits]at hw
 omega⟩
theorem Opens.u64(ht:P.underlying t=some (.int .u64))(hc:P.cellsOf t=1):Opens P t Nat:=⟨hc,by decide,fun h=>by
 obtain⟨n,rfl,_,hw⟩:=DataW.trod_int ht h
 simp[Lit.wf,IntKind.min,IntKind.max,IntKind.signed,IntKind.bits]at hw
 refine⟨n.toNat,?_,by omega⟩
 show [Value.int .u64 n]=[Value.int .u64 (n.toNat:Int)]
 congr 2
 omega⟩
theorem Opens.dg(ht:P.underlying t=some (.array 32 e))(he:P.underlying e=some (.int .u8))(hce:P.cellsOf e=1)(hc:P.cellsOf t=32):Opens P t Dg:=⟨hc,by decide,fun {H enc w base sp held fuel cs x} h=>by
 cases fuel with
 |zero=>simp[DataW.trod]at h
 |succ fuel=>
  simp only[DataW.trod,ht,hce,hc,Nat.mul_one]at h
  split at h
  ·rename_i hl
   obtain⟨xs,hm,hx⟩:=Option.map_eq_some_iff.1 h
   have hall:∀i,i<32→∃z,cs[i]? =some (.int .u8 z)∧0≤z∧z<256:=by
    intro i hi
    obtain⟨b,hb,hf2⟩:=Lib.mapM_at hm i i (by simp[hi])
    obtain⟨z,hcz,-,hw⟩:=DataW.trod_int he hf2
    have hb8:=bounds_u8 hw
    refine⟨z,?_,hb8.1,by omega⟩
    have:=congrArg (·[0]?) hcz
    simpa [List.getElem?_take,List.getElem?_drop] using this
   refine⟨⟨cs.map fun v=>match v with| .int _ z=>UInt8.ofNat z.toNat|_=>0,by simp[hl]⟩,?_⟩
   show cs=_
   rw[List.map_map]
   apply List.ext_getElem
   ·simp
   ·intro i h1 h2
    obtain⟨z,hz,hz0,hz1⟩:=hall i (by omega)
    rw[Vx9 h1]at hz
    injection hz with hz
    simp[hz,bv]
    omega
  ·cases h⟩
theorem Opens.slice{α:Type}[Enc α](ht:P.underlying t=some (.slice e))(hc:P.cellsOf t=1)(ho:Opens P e α):Opens P t (List α):=⟨hc,(show 0<1 by decide),fun {H enc w base sp held fuel cs x} h=>by
 rcases Deep.open_slice ht h with ⟨rfl,_⟩|⟨a,len,cap,m,n,D,Pl,rfl,_,hl,hcm,hm,_,hi⟩
 ·exact⟨[],none,0,rfl,Vx8 _,Nat.zero_le _,Row.nil _ _ _⟩
 ·have hml:len≤m:=by rw[hm];split<;>omega
  have each:∀i,i<len→∃y:α,∃cs',w.cells? base (a.add (i * Enc.size α)) (Enc.size α)=some cs'∧Enc.rep (fun b=>b<w.heap.size) w y cs':=by
   intro i hi2
   obtain⟨cs',h1,h2⟩:=hi i (by omega)
   obtain⟨y,hy⟩:=ho.opens h2
   rw[ho.cells]at h1
   exact⟨y,cs',h1,hy⟩
  obtain⟨xs,hxs,hp⟩:=ZrE len (fun i (y:α)=>∃cs',w.cells? base (a.add (i * Enc.size α)) (Enc.size α)=some cs'∧Enc.rep (fun b=>b<w.heap.size) w y cs') each
  refine⟨xs,some a,cap,by rw[hxs],by omega,hcm,fun hn=>?_⟩
  have hpos:=ho.pos
  obtain⟨b,o,spot⟩:=a
  have hcell:∀(j:Nat) (y:α),xs[j]? =some y→∃cs',cs'.length=Enc.size α∧(∀ i,i<Enc.size α→w.cell? (((⟨b,o,spot⟩:Addr).add (j * Enc.size α)).add i)=cs'[i]?)∧Enc.rep (fun b=>b<w.heap.size) w y cs':=by
   intro j y hy
   obtain⟨cs',h1,h2⟩:=hp j y hy
   have h3:=World.cells?_some h1
   exact⟨cs',h3.2.1,h3.2.2,h2⟩
  obtain⟨cs0,hl0,hc0,hr0⟩:=hcell 0 _ (Vx9 hn)
  have h0:=hc0 0 hpos
  rw[Vx9 (by omega)]at h0
  have hspot:spot=none:=by simpa [Addr.add] using World.cell?_spot h0
  subst hspot
  have hlt:b<w.heap.size:=by
   rw[Zgm,Zgm]at h0
   exact Vx5 _ _ h0
  refine⟨b,o,rfl,hlt,hlt,fun j y hy=>?_⟩
  obtain⟨cs',h1,h2,h3⟩:=hcell j y hy
  refine⟨cs',h3,fun i v hv=>?_⟩
  have hi3:=(List.getElem?_eq_some_iff.1 hv).1
  have h4:=h2 i (by omega)
  rw[Zgm,Zgm,hv]at h4
  exact h4⟩
theorem Opens.struct2{α β:Type}[Enc α][Enc β]{f0 f1:Field}(ht:P.underlying t=some (.struct #[f0,f1]))(hc:P.cellsOf t=Enc.size α+Enc.size β)(h0:f0.offset=0)(h1:f1.offset=Enc.size α)(ho0:Opens P f0.type α)(ho1:Opens P f1.type β):Opens P t (α×β):=
 ⟨hc,Vx4 ho0.pos (Nat.le_add_right _ _),fun {H enc w base sp held fuel cs x} h=>by
  obtain⟨xs,n,_,hx,hl,hxl,hf⟩:=DataW.trod_struct ht h
  have e0:=hf 0 f0 rfl
  have e1:=hf 1 f1 rfl
  have g0:xs[0]? =some (xs[0]'(by simp at hxl;omega)):=Vx9 _
  have g1:xs[1]? =some (xs[1]'(by simp at hxl;omega)):=Vx9 _
  rw[g0]at e0
  rw[g1]at e1
  obtain⟨a,ha⟩:=ho0.opens e0
  obtain⟨b,hb⟩:=ho1.opens e1
  rw[h0,ho0.cells,List.drop_zero]at ha
  rw[h1,ho1.cells,List.take_of_length_le (by rw[List.length_drop,hl,hc];omega)]at hb
  refine⟨(a,b),_,_,?_,ha,hb⟩
  rw[List.take_append_drop]⟩
theorem Opens.by_{α β:Type}[Enc β](f:α→β)(g:β→α)(hfg:∀b,f (g b)=b)(h:Opens P t β):@Opens P t α (Enc.by_ f):=by
 letI:=(Enc.by_ f:Enc α)
 exact⟨h.cells,h.pos,fun hh=>by
  obtain⟨b,hb⟩:=h.opens hh
  refine⟨g b,?_⟩
  show Enc.rep _ _ (f (g b)) _
  rw[hfg]
  exact hb⟩
end
theorem ZgF(w:World)(A:Option Addr)(c:Nat)(l:List UInt8)(t:TypeId)(h:Rd w A l)(d1:l.length≤c∧c≤maxLen):Rds (w.alloc (.cells [Value.slice A l.length c].toArray t)) (some ⟨w.heap.size,0,none⟩) [l]:=fun _=>by
 have hb:=Zad w (.cells [Value.slice A l.length c].toArray t)
 refine⟨w.heap.size,0,rfl,fun j l' hl=>?_⟩
 rcases j with _|j
 ·simp at hl
  subst hl
  refine⟨A,c,?_,h.bel hb,d1.1,d1.2⟩
  rw[cell_of_row _ _ _ _ t (0,0) (Vx0 w _)]
  rfl
 ·simp at hl
def Apart(A D:Option Addr):Prop:=∀a d,A=some a→D=some d→a.block≠d.block
theorem Apart.symm{A D:Option Addr}(h:Apart A D):Apart D A:=fun a d ha hd e=>h d a hd ha e.symm
section
variable{α:Type}[Enc α]{P:Program}{S E:TypeId}{z:Value}{bytes:Nat}{w w':World}{B:Nat}{A D:Option Addr}{c d:Nat}{xs ys zs:List α}
end
def isU8(v:Value):Prop:=∃n:Int,v=.int .u8 n
structure Mut (F:Nat→Prop) (w w':World):Prop where
 chg:Chg F w w'
 cells:∀(b:Nat) (cs:Array Value) (t:TypeId),w.heap[b]? =some (Obj.cells cs t (0,0))→∃cs',w'.heap[b]? =some (Obj.cells cs' t (0,0))∧∀(i:Nat) (v:Value),cs[i]? =some v→∃v',cs'[i]? =some v'∧(v'=v∨isU8 v∧isU8 v')
theorem Mut.refl(F:Nat→Prop)(w:World):Mut F w w:=⟨Chg.refl F w,fun b cs t h=>⟨cs,h,fun i v hv=>⟨v,hv,.inl rfl⟩⟩⟩
theorem Mut.drew{F:Nat→Prop}{w w':World}(h:Mut F w w'):Mut F w w'.drew:=⟨h.chg.trans (Chg.of_bel (Zao w')),h.cells⟩
theorem Mut.store{F:Nat→Prop}{w W:World}(h:Mut F w W){b i:Nat}(hF:F b)(hs:Soft w b){n:Int}(hc:W.cell? ⟨b,i,none⟩=some (.int .u8 n))(m:Int):Mut F w (W.setCell ⟨b,i,none⟩ (.int .u8 m)):=by
 refine⟨h.chg.trans ⟨rfl,rfl,rfl,by simp[World.setCell],fun k hk hn=>Vy3 _ _ _ k (fun e=>hn (by rw[e];exact hF))⟩,fun k cs t hk=>?_⟩
 obtain⟨cs1,h1,h2⟩:=h.cells k cs t hk
 by_cases e:k=b
 ·subst e
  refine⟨_,ZaD h1 i _,fun j v hv=>?_⟩
  obtain⟨v1,h3,h4⟩:=h2 j v hv
  rw[Array.getElem?_setIfInBounds]
  by_cases he:i=j
  ·subst he
   have hsz:i<cs1.size:=(Array.getElem?_eq_some_iff.1 h3).1
   rw[if_pos rfl,if_pos hsz]
   rw[Zaq h1 i,h3]at hc
   injection hc with hc
   refine⟨_,rfl,.inr ⟨?_,⟨m,rfl⟩⟩⟩
   rcases h4 with h4|h4
   ·exact⟨n,by rw[← h4,hc]⟩
   ·exact h4.1
  ·rw[if_neg he]
   exact⟨v1,h3,h4⟩
 ·exact⟨cs1,(Vy3 _ _ _ k e).trans h1,h2⟩
theorem Soft.free{W:World}{b:Nat}(hs:Soft W b)(i:Nat):W.frozen? ⟨b,i,none⟩=false:=by
 obtain⟨cs,t,hs⟩:=hs
 exact Zap hs i
theorem Mut.same{F:Nat→Prop}{w W:World}{b i:Nat}{v:Value}(h:Mut F w W)(hs:Soft w b)(hc:w.cell? ⟨b,i,none⟩=some v)(hv:¬isU8 v):W.cell? ⟨b,i,none⟩=some v:=by
 obtain⟨cs,t,hs⟩:=hs
 obtain⟨cs',h1,h2⟩:=h.cells b cs t hs
 rw[Zaq hs i]at hc
 obtain⟨v',h3,h4⟩:=h2 i v hc
 rw[Zaq h1 i,h3]
 rcases h4 with h4|h4
 ·rw[h4]
 ·exact absurd h4.1 hv
theorem OwnR.softRow{α:Type}[Enc α]{E:TypeId}{w:World}{B:Nat}{A:Option Addr}{c:Nat}{xs:List α}(h:OwnR E w B A c xs):Row (fun b=>B≤b∧Soft w b) w A xs:=by
 obtain⟨F,h1,h2⟩:=h
 refine h1.row.mono ?_
 rintro b (hb|⟨a,ha,rfl⟩) _
 ·exact h2 b hb
 ·refine⟨(h1.blk a ha).1,?_⟩
  obtain⟨css,_,⟨_,h3⟩,_⟩:=h1
  rcases h3 with ⟨hv,_⟩|⟨g,cap,cur,hv,_,hg,_⟩
  ·injection hv with hA
   rw[ha]at hA
   cases hA
  ·injection hv with hA
   rw[ha]at hA
   injection hA with hA
   subst hA
   exact⟨cur,_,hg⟩
theorem Chg.soft{F:Nat→Prop}{w w':World}{b:Nat}(hc:Chg F w w')(hs:Soft w b)(hn:¬F b):Soft w' b:=hs.kept (hc.block b hs.lt hn)
def Held{α:Type}[Enc α](w:World)(lo hi:Nat)(A:Option Addr)(xs:List α):Prop:=∃F,Row F w A xs∧∀b,F b→lo≤b∧b<hi∧Soft w b
section
variable{α:Type}[Enc α]{w w':World}{lo hi l2 h2:Nat}{A:Option Addr}{xs:List α}
theorem OwnR.held{E:TypeId}{B c:Nat}(h:OwnR E w B A c xs):Held w B w.heap.size A xs:=⟨_,h.softRow,fun b hb=>⟨hb.1,hb.2.lt,hb.2⟩⟩
theorem Own.held{E:TypeId}{B c:Nat}{l:List UInt8}(h:Own E w B A c l):Held w B w.heap.size A l:=
 ⟨fun b=>B≤b∧Soft w b,h.rd.row fun a ha _=>h.soft a ha,fun b hb=>⟨hb.1,hb.2.lt,hb.2⟩⟩
theorem Held.row(h:Held w lo hi A xs):Row (fun b=>lo≤b∧b<hi) w A xs:=by
 obtain⟨F,h1,h2⟩:=h
 exact h1.mono fun b hb _=>⟨(h2 b hb).1,(h2 b hb).2.1⟩
theorem Held.chg(h:Held w lo hi A xs)(hc:Chg (fun b=>l2≤b∧b<h2) w w')(hd:hi≤l2∨h2≤lo):Held w' lo hi A xs:=by
 obtain⟨F,h1,h3⟩:=h
 have hne:∀b,F b→¬(l2≤b∧b<h2):=fun b hb he=>by have:=h3 b hb;omega
 exact⟨F,h1.chg hc fun b hb _=>hne b hb,fun b hb=>⟨(h3 b hb).1,(h3 b hb).2.1,hc.soft (h3 b hb).2.2 (hne b hb)⟩⟩
theorem Held.bel(h:Held w lo hi A xs)(hb:Below w.heap.size w w'):Held w' lo hi A xs:=by
 obtain⟨F,h1,h3⟩:=h
 exact⟨F,h1.bel hb,fun b hf=>⟨(h3 b hf).1,(h3 b hf).2.1,(h3 b hf).2.2.kept (hb.block b (h3 b hf).2.2.lt)⟩⟩
theorem Row.chgLow{m:Nat}(h:Row (fun b=>b<m) w A xs)(hc:Chg (fun b=>l2≤b∧b<h2) w w')(hm:m≤l2):Row (fun b=>b<m) w' A xs:=h.chg hc fun b hb _ he=>by omega
end
def cutA(A:Option Addr)(c k s:Nat):Option Addr:=if c=k then A else A.map (·.add (k * s))
theorem Src.cutA{α:Type}[Enc α]{F:Nat→Prop}{w:World}{A:Option Addr}{xs:List α}(h:Src F w A xs)(k c:Nat)(hk:k≤xs.length)(hc:xs.length≤c):Src F w (cutA A c k (Enc.size α)) (xs.drop k):=h.cut k c hk hc
theorem Row.cutA{α:Type}[Enc α]{F:Nat→Prop}{w:World}{A:Option Addr}{xs:List α}(h:Row F w A xs)(k c:Nat)(hk:k≤xs.length)(hc:xs.length≤c):Row F w (cutA A c k (Enc.size α)) (xs.drop k):=h.cut k c hk hc
theorem Src.mono{α:Type}[Enc α]{F G:Nat→Prop}{w:World}{A:Option Addr}{xs:List α}(h:Src F w A xs)(hG:∀b,F b→b<w.heap.size→G b):Src G w A xs:=fun hn=>by
 obtain⟨b,o,hA,hc⟩:=h hn
 exact⟨b,o,hA,hc.mono hG⟩
section
variable{P:Program}{α:Type}[Enc α]{S E:TypeId}{z:Value}{bytes:Nat}
theorem ZnJ(h:Slot P α S E z bytes)(w:World):(sizeOf E).run P w=.ok (Enc.size α) w:=by
 obtain⟨i,hi,_,hsz,_⟩:=info_parts h.info
 simp[sizeOf,typeInfo,hi,hsz]
theorem ZgM(h:Slot P α S E z bytes):P.elem S=E:=by simp[Program.elem,h.under]
theorem Zc7(h:Slot P α S E z bytes)(A:Option Addr)(n c k:Nat)(hk:k≤n)(w:World):
  (Instr.sliceAt S (.slice A n c) (some (.int .i64 (k:Int))) none none).run P w=.ok (.slice (cutA A c k (Enc.size α)) (n-k) (c-k)) w:=by
 have he:P.underlying S=some (.slice (P.elem S)):=by rw[ZgM h];exact h.under
 rw[run_sliceAt_slice w S _ _ _ _ he,run_slice_l w S A n c he .i64 (k:Int) (by omega) (by omega),ZgM h,ZnJ h]
 rfl
theorem Zcl(h:Slot P α S E z bytes)(A:Option Addr)(n c k:Nat)(hk:k≤c)(w:World):
  (Instr.sliceAt S (.slice A n c) none (some (.int .i64 (k:Int))) none).run P w=.ok (.slice A k c) w:=by
 have he:P.underlying S=some (.slice (P.elem S)):=by rw[ZgM h];exact h.under
 rw[run_sliceAt_slice w S _ _ _ _ he,run_slice_h w S A n c he .i64 (k:Int) (by omega) (by omega),ZgM h,ZnJ h]
 have e:(if c=0 then A else A.map (·.add (0 * Enc.size α)))=A:=by
  split
  ·rfl
  ·rcases A with _|a
   ·rfl
   ·simp[Addr.add]
 simp only[Result.andThen,sliced,e]
 simp
theorem Yb2{ops:Array Oper}{Q:World→Prop}{o:Oper}{a:Act}(hw:Region.wanted o (yielded ops a.tmps)=true)(t:TypeId)(x:Operand)(lo hi mx:Option Operand)(ho:o.op=.slice t x lo hi mx)
  (X:Value) (L H M:Option Value) (V:Value) (hrun:∀w,(Instr.sliceAt t X L H M).run P w=.ok V w) (hx:a.eval x=X) (hl:lo.map a.eval=L) (hh:hi.map a.eval=H) (hm:mx.map a.eval=M):YieldsIf P ops Q o V a:=
 .inl ⟨hw,fun w _=>by
  subst hx hl hh hm
  unfold execOp
  simp only[ho,Sem.run_bind,hrun w,Result.andThen_ok,Sem.run_pure]⟩
end
theorem Zfg{P:Program}{α:Type}[Enc α]{S E:TypeId}{z:Value}{bytes:Nat}(hS:Slot P α S E z bytes)(n:Nat)(css:List (List Value))(hn:css.length=n)(h0:0<n)(hsm:n * Enc.size α≤16777216)(hl:∀cs∈css,cs.length=Enc.size α)
  (vs:List Value) (hvs:vs.map (·.cells)=css.map (·.toArray)) (w:World):
  (Instr.buildSlice S n ((vs.zipIdx 0).map fun x=>(x.2,x.1)).toArray).run P w=.ok (.slice (some ⟨w.heap.size,0,none⟩) n n) (w.alloc (.cells css.flatten.toArray E)):=by
 obtain⟨i,hi,hz,hsz,hby⟩:=info_parts hS.info
 have hpos:=hS.pos
 have hlen:vs.length=n:=by have:=congrArg List.length hvs;simp at this;omega
 have hcell:∀v∈vs,v.cells.size=i.size:=by
  intro v hv
  have:v.cells∈css.map (·.toArray):=by rw[← hvs];exact List.mem_map_of_mem hv
  obtain⟨cs,h1,h2⟩:=List.mem_map.1 this
  rw[← h2,Vx7,hl cs h1,hsz]
 have hnz:n * i.size≠0:=by
  have:=Nat.mul_pos h0 hpos
  rw[hsz];omega
 refine run_buildSlice w S E n _ _ i z hS.under hi hz (by rw[hsz];omega) hnz ?_
 rw[show (((vs.zipIdx 0).map fun x=>(x.2,x.1)).toArray).toList=(vs.zipIdx 0).map fun x=>(x.2,x.1) from rfl]
 rw[Great.fill_whole (s:=i.size) (by rw[hsz];exact hpos) vs _ hcell (by simp[hlen])]
 congr 2
 have:vs.flatMap (fun v=>v.cells.toList)=((vs.map (·.cells)).map (·.toList)).flatten:=by rw[List.map_map];rfl
 rw[this,hvs,List.map_map]
 have e:∀r:List (List Value),r.map ((fun x:Array Value=>x.toList)∘fun x=>x.toArray)=r:=fun r=>by
  induction r with
  |nil=>rfl
  |cons c r ih=>rw[List.map_cons,ih];rfl
 rw[e]
theorem ZjI{α:Type}[Enc α]{F:Nat→Prop}{w:World}{xs:List α}{css:List (List Value)}{E:TypeId}(h1:css.length=xs.length)(h3:∀(j:Nat) (x:α) (vs:List Value),xs[j]? =some x→css[j]? =some vs→Enc.rep F w x vs):
  Cells F (w.alloc (.cells css.flatten.toArray E)) w.heap.size 0 xs:=fun j x hx=>by
 have hj:=(List.getElem?_eq_some_iff.1 hx).1
 have hcj:css[j]? =some (css[j]'(by omega)):=Vx9 (by omega)
 have hr:=h3 j x _ hx hcj
 refine⟨_,Enc.bel hr (Zad _ _),fun i v hv=>?_⟩
 have hi:i<Enc.size α:=by rw[← Enc.len hr];exact(List.getElem?_eq_some_iff.1 hv).1
 have hfl:=Zip (Zj9 h1 h3) hcj hi
 rw[cell_of_row _ w.heap.size _ css.flatten.toArray E (0,0) (Vx0 w _),Nat.zero_add,List.getElem?_toArray,hfl,hv]
def Zone(A:Option Addr)(M T:Nat):Prop:=∀a,A=some a→a.block<M∨T≤a.block
def Mid(A:Option Addr)(M T:Nat):Prop:=∀a,A=some a→M≤a.block∧a.block<T
theorem Zone.none(M T:Nat):Zone Option.none M T:=fun a h=>by cases h
theorem Zone.step{A A':Option Addr}{M T n:Nat}(h:Zone A M T)(hn:T≤n)(hA:A'=A∨A'=some ⟨n,0,Option.none⟩):Zone A' M T:=fun a ha=>by
 rcases hA with rfl|rfl
 ·exact h a ha
 ·injection ha with ha;subst ha;exact .inr hn
theorem Mid.mono{A:Option Addr}{M T T':Nat}(h:Mid A M T)(hT:T≤T'):Mid A M T':=fun a ha=>⟨(h a ha).1,Vx4 (h a ha).2 hT⟩
theorem Rd.zone{w w':World}{A A2:Option Addr}{l:List UInt8}{M T:Nat}(h:Rd w A2 l)(hm:Mid A2 M T)(hz:Zone A M T)(hg:w.grownBy w' (A.map (·.block))):Rd w' A2 l:=fun hn=>by
 obtain⟨b,o,hA,hc⟩:=h hn
 refine⟨b,o,hA,fun j x hx=>?_⟩
 have h1:=hc j x hx
 have hb:=Vx5 _ _ h1
 have hne:some b≠A.map (·.block):=by
  have h2:=hm _ hA
  rcases A with _|a
  ·simp
  ·have h3:=hz a rfl
   simp only[Option.map_some,ne_eq,Option.some.injEq]
   simp only at h2
   omega
 exact(World.cell?_of_block (w:=w) (w':=w') (a:=⟨b,o+j,Option.none⟩) (hg.block b hb hne)).trans h1
theorem Own.mid{E:TypeId}{w:World}{A:Option Addr}{c B:Nat}{l:List UInt8}(h:Own E w B A c l):Mid A B w.heap.size:=fun a ha=>h.blk a ha
section
variable{P:Program}{S E:TypeId}
theorem Yep(h:U8s P S E)(w:World)(ty:TypeId)(B:Nat)(A A2:Option Addr)(c c2:Nat)(xs ys:List UInt8)(ho:Own E w B A c xs)(hr:Rd w A2 ys)
  (hlen:xs.length+ys.length≤140737488355328) (hB:B≤w.heap.size):
  ∃A' c' w',(Builtin.append_ #[S,S] ty #[.slice A xs.length c,.slice A2 ys.length c2]).run P w=.ok (.slice A' (xs++ys).length c') w'∧Own E w' B A' c' (xs++ys)∧w.grownBy w' (A.map (·.block))∧(A'=A∨A'=some ⟨w.heap.size,0,none⟩):=by
 obtain⟨i0,hi0,hz0,hz1,hz2⟩:=info_parts h.info
 rcases A2 with _|ad
 ·have hy:ys=[]:=by
   rcases Nat.eq_zero_or_pos ys.length with h0|h0
   ·exact List.eq_nil_of_length_eq_zero h0
   ·obtain⟨b,o,hA,_⟩:=hr h0
    cases hA
  subst hy
  refine⟨A,c,w,?_,by simpa using ho,⟨rfl,rfl,rfl,Vx8 _,fun _ _ _=>rfl⟩,.inl rfl⟩
  rcases ho.2 with ⟨hv,h0⟩|⟨g,cap,cur,hv,_,_,hnc,_⟩
  ·injection hv with h1 h2 h3
   subst h1 h3
   have hx:xs=[]:=List.eq_nil_of_length_eq_zero h0
   subst hx
   simp[Builtin.append_,run_underlying h.under,sizeOf,typeInfo,hi0,Builtin.lenOf,Builtin.firstCells]
  ·injection hv with h1 _ h3
   subst h1 h3
   simp[Builtin.append_,run_underlying h.under,sizeOf,typeInfo,hi0,Builtin.lenOf,Builtin.firstCells,hnc,storeCells]
 ·obtain⟨A',c',w',hrun,hown,hg,hA⟩:=Zkd (P:=P) w B S ty E i0 (.int .u8 0) h.under hi0 hz0 (by rw[hz1];rfl) (by rw[hz1];decide) A xs.length c (xs.map bv) (by rw[hz1];exact ho) ad ys.length c2 (ys.map bv)
   (by rw[hz1];simp) hr.news (Zbn _) (by unfold maxLen;omega) (by rw[hz2];omega) hB
  have hlen2:(xs++ys).length=xs.length+ys.length:=by simp
  have hmap:(xs++ys).map bv=xs.map bv++ys.map bv:=by simp
  refine⟨A',c',w',by rw[hrun,hlen2],?_,hg,hA⟩
  unfold Own
  rw[hlen2,hmap]
  rw[hz1]at hown
  exact hown
theorem Zch(h:U8s P S E){w:World}{ops:Array Oper}{rest:List Oper}{o:Oper}{a:Act}{Q:Exit→Act→World→Prop}(hg:Region.wanted o (yielded ops a.tmps)=true)(s x:Operand)
  (hop:o.op=.call { callee:=.builtin .append,args:=#[s,x],argTypes:=#[S,S] })
  (B:Nat) (A A2:Option Addr) (n m c c2:Nat) (xs ys:List UInt8) (hs:a.eval s=.slice A n c) (hx:a.eval x=.slice A2 m c2) (hn:n=xs.length) (hm:m=ys.length)
  (ho:Own E w B A c xs) (hr:Rd w A2 ys) (hlen:xs.length+ys.length≤140737488355328) (hB:B≤w.heap.size)
  (hK:∀A' c' w',Own E w' B A' c' (xs++ys)→Below B w w'→w.grownBy w' (A.map (·.block))→(A'=A∨A'=some ⟨w.heap.size,0,none⟩)→wpList P ops Q rest (a.put o.dst (.slice A' (xs++ys).length c')) w'):wpList P ops Q (o::rest) a w:=
 wpList_step fun _ hK2=>by
  rw[if_pos hg]
  subst hn hm
  obtain⟨A',c',w',hrun,h1,h2,h3⟩:=Yep h w o.type B A A2 c c2 xs ys ho hr hlen hB
  unfold Oper.wp execOp
  simp only[hop,resolve,invoke,builtin,Sem.run_bind,Sem.run_pure,Result.andThen_ok,List.map_toArray,List.map_cons,List.map_nil,hs,hx,hrun]
  exact hK2 _ _ (hK A' c' w' h1 (ho.only h2 hB) h2 h3)
end
end Go.Proofs.YtimaoonpgilekaaDoor
