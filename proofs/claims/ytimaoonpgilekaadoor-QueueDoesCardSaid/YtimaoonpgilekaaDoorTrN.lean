import Derived.WideShapes
import Derived.OwnWalk
import Derived.Test.YtimaoonpgilekaaDoorPlain
set_option maxRecDepth 100000
set_option linter.all false
namespace Go.Proofs.YtimaoonpgilekaaDoor
open Go.RowKit Go.ChangeShapes Go.WideShapes
theorem Yg3{α:Type}[Enc α]{H:Type}{enc:TypeId×Value→H}{P:Program}{W:World}{base:Nat}{sp:Nat→Bool}{held:Bool}{r:Reach}{b0:Nat}{t:TypeId}{v:Value}{d:DataW H}{ps:List MemPlace}
  (ho:Opens P t α) {fs:Array Field} (ht:P.underlying t=some (.struct fs)) (hval:Value.okWide P W r b0 t v) (hd:DataW.Trod enc P W base sp held t v d ps):
  ∃(x:α) (vs:List Value),v=.agg vs.toArray∧Enc.rep (fun b=>b<W.heap.size) W x vs:=by
 obtain⟨cs,rfl,_⟩:=okWide_struct ht hval
 obtain⟨fuel,hf⟩:=hd
 obtain⟨a,ha⟩:=ho.opens hf
 exact⟨a,cs.toList,rfl,ha⟩
def Places(P:Program)(t:TypeId)(z:Value)(pl:List (Nat×Nat)):Prop:=(match P.info? t,P.underlying t with
  |some it,some (.struct fields)=>(fields.toList.mapM (fun f=>(P.info? f.type).map fun i=>(f.offset,i.size))).map fun pl=>(it.zero,pl)
  |_,_=>none)=some (some z,pl)
theorem Za5{P:Program}{t:TypeId}{z:Value}{pl:List (Nat×Nat)}(h:Places P t z pl)(parts:List (Nat×Value)):P.built t parts=Instr.fill (pl.toArray[·]?) z.cells parts:=by
 unfold Places at h
 unfold Program.built
 cases hi:P.info? t with
 |none=>rw[hi]at h;cases h
 |some it=>
  cases hd:P.underlying t with
  |none=>rw[hi,hd]at h;cases h
  |some d=>
   cases d with
   |struct fields=>
    rw[hi,hd]at h
    simp only at h ⊢
    obtain⟨pl,hpl,h2⟩:=Option.map_eq_some_iff.1 h
    injection h2 with h3 h4
    rw[h3,hpl,h4]
   |_=>rw[hi,hd]at h;cases h
theorem Zbt(a b c vs:List Value)(h:vs.length=b.length):lay (a++(b++c)) a.length vs=a++(vs++c):=by
 unfold lay
 rw[List.take_left,List.drop_append,List.drop_of_length_le (by omega),List.nil_append,show a.length+vs.length-a.length=b.length by omega,List.drop_left,List.append_assoc]
def setA(cs:Array Value):Nat→List Value→Array Value
 |_,[]=>cs
 |o,v::r=>setA (cs.setIfInBounds o v) (o+1) r
theorem Zb8{g:Nat}{t:TypeId}:∀(vs:List Value) (o:Nat) (w:World) (cs:Array Value),w.heap[g]? =some (.cells cs t (0,0))→(w.setCells g o vs).heap[g]? =some (.cells (setA cs o vs) t (0,0))
 |[],_,_,_,h=>h
 |v::r,o,w,cs,h=>Zb8 r (o+1) _ _ (ZaD h o v)
theorem ZdW{g b:Nat}(hb:b≠g):∀(vs:List Value) (o:Nat) (w:World),(w.setCells g o vs).heap[b]? =w.heap[b]?
 |[],_,_=>rfl
 |v::r,o,w=>(ZdW hb r (o+1) _).trans (Vy3 w ⟨g,o,none⟩ v b hb)
theorem ZgH{g B:Nat}(hB:B≤g):∀(vs:List Value) (o:Nat) {w0 w:World},Below B w0 w→Below B w0 (w.setCells g o vs)
 |[],_,_,_,h=>h
 |v::r,o,_,_,h=>ZgH hB r (o+1) (h.setCell (p:=⟨g,o,none⟩) hB v)
theorem ZiF:∀(vs:List Value) (o:Nat) (cs:Array Value),o+vs.length≤cs.size→(setA cs o vs).toList=lay cs.toList o vs
 |[],o,cs,h=>by simp[setA,lay]
 |v::r,o,cs,h=>by
  simp only[List.length_cons]at h
  have ih:=ZiF r (o+1) (cs.setIfInBounds o v) (by rw[Array.size_setIfInBounds];omega)
  rw[setA,ih]
  simp only[lay,Array.toList_setIfInBounds,List.length_cons]
  have hl:o<cs.toList.length:=by rw[Array.length_toList];omega
  have e1:(cs.toList.set o v).take (o+1)=cs.toList.take o++[v]:=by
   rw[List.take_set,Vy5 hl,List.set_append_right _ _ (by simp;omega)]
   rw[show o-(cs.toList.take o).length=0 by rw[List.length_take];omega]
   rfl
  have e2:(cs.toList.set o v).drop (o+1+r.length)=cs.toList.drop (o+(r.length+1)):=by
   rw[List.drop_set_of_lt (by omega)]
   congr 1;omega
  rw[e1,e2]
  simp
theorem Zsk:∀(vs:List Value) (o:Nat) (cs:Array Value),(setA cs o vs).size=cs.size
 |[],_,_=>rfl
 |v::r,o,cs=>(Zsk r (o+1) _).trans (Array.size_setIfInBounds ..)
theorem Ydj{cs vs:List Value}{o n:Nat}(h:o+vs.length≤n)(hn:n≤cs.length):(lay cs o vs).take n=lay (cs.take n) o vs:=by
 unfold lay
 have l1:(cs.take o).length=o:=by rw[List.length_take];omega
 rw[List.take_append,List.take_append,List.take_take,show min n o=o by omega,show n-(cs.take o).length=n-o by rw[l1],List.take_of_length_le (l:=vs) (by omega)]
 rw[List.take_take,show min o n=o by omega]
 congr 1
 rw[Vx3,l1,List.drop_take]
theorem ZmZ{n:Nat}{vs:List Value}(hv:vs.length=n):∀(css:List (List Value)) (j:Nat),(∀ cs∈css,cs.length=n)→j<css.length→(css.set j vs).flatten=lay css.flatten (j * n) vs
 |[],j,_,h=>by simp at h
 |c::css,0,hn,_=>by
  have hc:=hn c (by simp)
  simp only[List.set_cons_zero,List.flatten_cons,lay,Nat.zero_mul,List.take_zero,List.nil_append,Nat.zero_add]
  rw[List.drop_append,List.drop_of_length_le (by omega),hv,hc,Nat.sub_self,List.drop_zero,List.nil_append]
 |c::css,j+1,hn,hj=>by
  have hc:=hn c (by simp)
  simp only[List.set_cons_succ,List.flatten_cons]
  rw[ZmZ hv css j (fun cs h=>hn cs (by simp[h])) (by simpa using hj)]
  unfold lay
  rw[List.take_append,List.take_of_length_le (l:=c) (by rw[hc,Nat.succ_mul];omega),List.drop_append,List.drop_of_length_le (l:=c) (by rw[hc,Nat.succ_mul];omega)]
  rw[show (j+1) * n-c.length=j * n by rw[hc,Nat.succ_mul];omega,show (j+1) * n+vs.length-c.length=j * n+vs.length by rw[hc,Nat.succ_mul];omega]
  simp
section
variable{α:Type}[Enc α]{E:TypeId}{F:Nat→Prop}{w:World}{B c g j:Nat}{xs:List α}
theorem RowO.set(h:RowO E F w B (some ⟨g,0,none⟩) c xs)(hj:j<xs.length){x:α}{vs:List Value}(hx:Enc.rep F w x vs):RowO E F (w.setCells g (j * Enc.size α) vs) B (some ⟨g,0,none⟩) c (xs.set j x):=by
 obtain⟨css,h1,⟨h0,h2⟩,h3,h4⟩:=h
 have hlens:=Zj9 h1 h3
 have hvl:=Enc.len hx
 rcases h2 with ⟨hv,_⟩|⟨g',cap,cur,hv,hbg,hg,hnc,hcm,hcs,ht⟩
 ·injection hv with e;cases e
 ·injection hv with e1 e2 e3
  injection e1 with e1
  injection e1 with e1
  subst e1 e3
  have hle:j * Enc.size α+vs.length≤xs.length * Enc.size α:=by
   rw[hvl,←Nat.succ_mul]
   exact Nat.mul_le_mul_right _ hj
  have hle2:xs.length * Enc.size α≤c * Enc.size α:=Nat.mul_le_mul_right _ hnc
  have hcl:cur.toList.length=c * Enc.size α:=by rw[Array.length_toList];exact hcs
  have hF:∀b,F b→b<w.heap.size→(w.setCells g (j * Enc.size α) vs).heap[b]? =w.heap[b]? :=fun b hb _=>ZdW (fun e=>h4 _ rfl (by rw[← e];exact hb)) vs _ w
  refine⟨css.set j vs,by simp[h1],⟨by rw[Zjf (n:=Enc.size α),List.length_set,List.length_set,h1];intro cs hc;rcases List.mem_or_eq_of_mem_set hc with h|rfl;exact hlens cs h;exact hvl,.inr ⟨g,c,setA cur (j * Enc.size α) vs,by simp,hbg,Zb8 vs _ w cur hg,by simpa using hnc,hcm,by rw[Zsk];exact hcs,?_⟩⟩,fun i y us hy hu=>?_,h4⟩
  ·rw[ZiF vs _ cur (by omega),ZmZ hvl css j hlens (by omega),List.length_set,Ydj hle (by rw[hcl];exact hle2),ht]
  ·rw[List.getElem?_set]at hy hu
   by_cases e:j=i
   ·subst e
    rw[if_pos rfl,if_pos hj]at hy
    rw[if_pos rfl,if_pos (by omega)]at hu
    injection hy with hy
    injection hu with hu
    subst hy hu
    exact Enc.kept hx hF
   ·rw[if_neg e]at hy hu
    exact Enc.kept (h3 i y us hy hu) hF
end
theorem ZcB{W:World}{g:Nat}{cs:Array Value}{t:TypeId}(h:W.heap[g]? =some (.cells cs t (0,0)))(o n:Nat)(hn:o+n≤cs.size):W.there g o n:=fun j hj=>⟨by rw[Zaq h,Array.getElem?_eq_getElem (by omega)];rfl,Zap h _⟩
theorem ZdT(g o:Nat)(vs:List Value)(W:World):Chg (fun b=>b=g) W (W.setCells g o vs):=
 have q:=ZgH (Vx8 g) vs o (Below.refl g W)
 ⟨q.os,q.tape,q.output,q.size,fun k _ hne=>ZdW hne _ _ _⟩
structure Nd where
 leaf:Bool
 k:Dg
 v:List UInt8
 l:Int
 r:Int
 deriving DecidableEq
instance:Enc Nd:=Enc.by_ fun x=>(x.leaf,x.k,x.v,x.l,x.r)
structure Tr where
 ns:List Nd
 root:Int
 deriving DecidableEq
instance:Enc Tr:=Enc.by_ fun x=>(x.ns,x.root)
def z0:Dg:=⟨List.replicate 32 0,by simp⟩
def nd0:Nd:=⟨false,z0,[],0,0⟩
def ndAt(ns:List Nd)(n:Int):Nd:=ns.getD (n.toNat-1) nd0
def oneN(x:Nd)(a:Nat):Bool:=
 if x.leaf=true then valB x.v&&decide (x.l=0)&&decide (x.r=0)
 else decide (0≤x.l∧x.l≤a∧0≤x.r∧x.r≤a∧¬(x.l=0∧x.r=0))&&decide (x.k=z0)&&decide (x.v=[])
def Ones(ns:List Nd):Prop:=∀i (h:i<ns.length),oneN ns[i] i=true
instance(ns:List Nd):Decidable (Ones ns):=by unfold Ones;infer_instance
def turnD(k:Dg)(i:Nat):Dg:=⟨turn k.1 i,by rw[Zgd];exact k.2⟩
def rgt(ns:List Nd):Nat→Int→Dg→Int
 |e,n,b=>if n=0 then 0 else if (ndAt ns n).leaf=true then (if shared (ndAt ns n).k.1 b.1<256-e then -1 else 1) else match e with
  |0=> -1
  |e+1=>if rgt ns e (ndAt ns n).l b<0 then -1 else if rgt ns e (ndAt ns n).r (turnD b (255-e))<0∨rgt ns e (ndAt ns n).l b+rgt ns e (ndAt ns n).r (turnD b (255-e))<2 then -1 else 2
def forP(ns:List Nd):Nat→Int→List Pr
 |e,n=>if n=0 then [] else if (ndAt ns n).leaf=true then [⟨(ndAt ns n).k,(ndAt ns n).v⟩] else match e with
  |0=>[]
  |e+1=>forP ns e (ndAt ns n).l++forP ns e (ndAt ns n).r
def sumP(ns:List Nd):Nat→Int→List UInt8
 |e,n=>if n=0 then sha256 (tagB 0 []) else if (ndAt ns n).leaf=true then sha256 (tagB 1 [(ndAt ns n).k.1,(ndAt ns n).v]) else match e with
  |0=>sha256 []
  |e+1=>sha256 (tagB 2 [sumP ns e (ndAt ns n).l,sumP ns e (ndAt ns n).r])
section
variable{ns:List Nd}{e:Nat}{n:Int}{b k:Dg}
theorem ZdK:rgt ns e 0 b=0:=by cases e<;>simp[rgt]
theorem Zck(h:n≠0)(hl:(ndAt ns n).leaf=true):rgt ns e n b=if shared (ndAt ns n).k.1 b.1<256-e then -1 else 1:=by cases e<;>simp[rgt,h,hl]
theorem ZcN(h:n≠0)(hl:(ndAt ns n).leaf=false):rgt ns 0 n b= -1:=by simp[rgt,h,hl]
theorem Zhn(h:n≠0)(hl:(ndAt ns n).leaf=false):rgt ns (e+1) n b=if rgt ns e (ndAt ns n).l b<0 then -1 else if rgt ns e (ndAt ns n).r (turnD b (255-e))<0∨rgt ns e (ndAt ns n).l b+rgt ns e (ndAt ns n).r (turnD b (255-e))<2 then -1 else 2:=by simp[rgt,h,hl]
theorem ZaU:forP ns e 0=[]:=by cases e<;>simp[forP]
theorem ZaT(h:n≠0)(hl:(ndAt ns n).leaf=true):forP ns e n=[⟨(ndAt ns n).k,(ndAt ns n).v⟩]:=by cases e<;>simp[forP,h,hl]
theorem ZbV(h:n≠0)(hl:(ndAt ns n).leaf=false):forP ns (e+1) n=forP ns e (ndAt ns n).l++forP ns e (ndAt ns n).r:=by simp[forP,h,hl]
theorem ZgW:sumP ns e 0=sha256 (tagB 0 []):=by cases e<;>simp[sumP]
theorem Zic(h:n≠0)(hl:(ndAt ns n).leaf=true):sumP ns e n=sha256 (tagB 1 [(ndAt ns n).k.1,(ndAt ns n).v]):=by cases e<;>simp[sumP,h,hl]
theorem Zkk(h:n≠0)(hl:(ndAt ns n).leaf=false):sumP ns (e+1) n=sha256 (tagB 2 [sumP ns e (ndAt ns n).l,sumP ns e (ndAt ns n).r]):=by simp[sumP,h,hl]
theorem Zbk:(sumP ns e n).length=32:=by
 cases e<;>unfold sumP<;>(repeat' split)<;>exact S8.bytes_len _
theorem Za2(h:n≠0)(hl:(ndAt ns n).leaf=false)(hr:0≤rgt ns e n b):∃f,e=f+1∧0≤rgt ns f (ndAt ns n).l b∧0≤rgt ns f (ndAt ns n).r (turnD b (255-f))∧2≤rgt ns f (ndAt ns n).l b+rgt ns f (ndAt ns n).r (turnD b (255-f))∧rgt ns e n b=2:=by
 cases e with
 |zero=>rw[ZcN h hl]at hr;omega
 |succ f=>
  refine⟨f,rfl,?_⟩
  rw[Zhn h hl]at hr ⊢
  split at hr
  ·omega
  ·rename_i h1
   split at hr
   ·omega
   ·rename_i h2
    rw[if_neg h1,if_neg h2]
    omega
theorem ZnD:rgt ns e n b≤2:=by
 by_cases h:n=0
 ·subst h;rw[ZdK];decide
 ·by_cases hl:(ndAt ns n).leaf=true
  ·rw[Zck h hl];split<;>decide
  ·have hl:(ndAt ns n).leaf=false:=by simpa using hl
   cases e with
   |zero=>rw[ZcN h hl];decide
   |succ e=>rw[Zhn h hl];split;decide;split<;>decide
theorem Znf(hl:(ndAt ns n).leaf=true):∃h:n.toNat-1<ns.length,ndAt ns n=ns[n.toNat-1]:=by
 unfold ndAt at hl ⊢
 rcases Nat.lt_or_ge (n.toNat-1) ns.length with h|h
 ·exact⟨h,by rw[List.getD_eq_getElem?_getD,Vx9 h];rfl⟩
 ·rw[List.getD_eq_getElem?_getD,List.getElem?_eq_none h]at hl
  cases hl
theorem Zfn{j:Nat}(h:j<ns.length):ndAt ns ((j:Int)+1)=ns[j]:=by
 unfold ndAt
 rw[show ((j:Int)+1).toNat-1=j by omega,List.getD_eq_getElem?_getD,Vx9 h]
 rfl
def Zr(d:Nat)(b:Dg):Prop:=∀i,d≤i→i<256→kb b.1 i=0
theorem Zfk:Zr 0 z0:=fun i _ hi=>by
 unfold kb z0
 rw[List.getD_eq_getElem?_getD,List.getElem?_replicate]
 split<;>simp
theorem Zeb{d:Nat}(h:Zr d b):Zr (d+1) b:=fun i h1 h2=>h i (by omega) h2
theorem Zec{d:Nat}(h:Zr d b)(hd:d<256):Zr (d+1) (turnD b d):=fun i h1 h2=>by
 show kb (turn b.1 d) i=0
 rw[ZfD b.1 d i b.2 hd h2,if_neg (by omega)]
 exact h i (by omega) h2
theorem Zgy{d i:Nat}(hd:d<256)(hi:i<d):kb (turnD b d).1 i=kb b.1 i:=by
 show kb (turn b.1 d) i=_
 rw[ZfD b.1 d i b.2 hd (by omega),if_neg (by omega)]
theorem ZcQ{d:Nat}(h:Zr d b)(hd:d<256):kb (turnD b d).1 d=1:=by
 show kb (turn b.1 d) d=_
 rw[ZfD b.1 d d b.2 hd hd,if_pos rfl,h d (Vx8 _) hd]
def Und(d:Nat)(b:Dg)(ps:List Pr):Prop:=∀p∈ps,∀i,i<d→kb p.k.1 i=kb b.1 i
theorem Und.shr{d:Nat}{ps:List Pr}(h:Und d b ps):Shr d ps:=fun p hp q hq i hi=>(h p hp i hi).trans (h q hq i hi).symm
theorem Zlj{d:Nat}{l r:List Pr}(hd:d<256)(hz:Zr d b)(h1:Srt l)(h2:Srt r)(u1:Und (d+1) b l)(u2:Und (d+1) (turnD b d) r):Srt (l++r):=by
 refine List.pairwise_append.2 ⟨h1,h2,fun p hp q hq=>Ze8.2 ⟨d,hd,fun i hi=>?_,?_⟩⟩
 ·rw[u1 p hp i (by omega),u2 q hq i (by omega),Zgy hd hi]
 ·rw[u1 p hp d (by omega),u2 q hq d (by omega),ZcQ hz hd,hz d (Vx8 _) hd]
  decide
theorem YhO{d:Nat}{l r:List Pr}(hd:d<256)(u1:Und (d+1) b l)(u2:Und (d+1) (turnD b d) r):Und d b (l++r):=fun p hp i hi=>by
 rcases List.mem_append.1 hp with h|h
 ·exact u1 p h i (by omega)
 ·rw[u2 p h i (by omega),Zgy hd hi]
theorem ZnR{d:Nat}{l r:List Pr}(hd:d<256)(hz:Zr d b)(u1:Und (d+1) b l)(u2:Und (d+1) (turnD b d) r):zeros d (l++r)=l∧ones d (l++r)=r:=by
 have a1:∀p∈l,oneP d p=false:=fun p hp=>by
  unfold oneP
  rw[u1 p hp d (by omega),hz d (Vx8 _) hd]
  rfl
 have a2:∀p∈r,oneP d p=true:=fun p hp=>by
  unfold oneP
  rw[u2 p hp d (by omega),ZcQ hz hd]
  rfl
 unfold zeros ones
 rw[List.filter_append,List.filter_append]
 constructor
 ·rw[List.filter_eq_self.2 fun p hp=>by rw[a1 p hp];rfl,List.filter_eq_nil_iff.2 fun p hp=>by rw[a2 p hp];decide,List.append_nil]
 ·rw[List.filter_eq_nil_iff.2 fun p hp=>by rw[a1 p hp];decide,List.filter_eq_self.2 fun p hp=>a2 p hp,List.nil_append]
theorem Zbz:∀(e:Nat) (n:Int) (b:Dg),e≤256→Zr (256-e) b→0≤rgt ns e n b→
  Und (256-e) b (forP ns e n)∧Srt (forP ns e n)∧(rgt ns e n b=0→forP ns e n=[])∧(rgt ns e n b=1→(forP ns e n).length=1)∧(rgt ns e n b=2→2≤(forP ns e n).length)∧
  (∀ p∈forP ns e n,∃x∈ns,x.leaf=true∧p=⟨x.k,x.v⟩):=by
 intro e
 induction e with
 |zero=>
  intro n b _ hz hr
  by_cases h:n=0
  ·subst h
   rw[ZaU,ZdK]
   exact⟨fun p hp=>by simp at hp,List.Pairwise.nil,fun _=>rfl,fun h=>by omega,fun h=>by omega,fun p hp=>by simp at hp⟩
  ·cases hl:(ndAt ns n).leaf with
   |false=>rw[ZcN h hl]at hr;omega
   |true=>
    obtain⟨hj,hx⟩:=Znf hl
    rw[Zck h hl]at hr ⊢
    rw[ZaT h hl]
    split at hr
    ·omega
    ·rename_i hs
     rw[if_neg hs]
     refine⟨fun p hp i hi=>?_,List.pairwise_singleton _ _,fun h=>by omega,fun _=>rfl,fun h=>by omega,fun p hp=>⟨_,List.getElem_mem hj,by rw[← hx];exact hl,by rw[← hx];simpa using hp⟩⟩
     simp only[Vy4]at hp
     subst hp
     show kb (ndAt ns n).k.1 i=_
     exact Zb5 (by omega)
 |succ e ih=>
  intro n b he hz hr
  by_cases h:n=0
  ·subst h
   rw[ZaU,ZdK]
   exact⟨fun p hp=>by simp at hp,List.Pairwise.nil,fun _=>rfl,fun h=>by omega,fun h=>by omega,fun p hp=>by simp at hp⟩
  ·cases hl:(ndAt ns n).leaf with
   |true=>
    obtain⟨hj,hx⟩:=Znf hl
    rw[Zck h hl]at hr ⊢
    rw[ZaT h hl]
    split at hr
    ·omega
    ·rename_i hs
     rw[if_neg hs]
     refine⟨fun p hp i hi=>?_,List.pairwise_singleton _ _,fun h=>by omega,fun _=>rfl,fun h=>by omega,fun p hp=>⟨_,List.getElem_mem hj,by rw[← hx];exact hl,by rw[← hx];simpa using hp⟩⟩
     simp only[Vy4]at hp
     subst hp
     show kb (ndAt ns n).k.1 i=_
     exact Zb5 (by omega)
   |false=>
    obtain⟨f,hf,h1,h2,h3,h4⟩:=Za2 h hl hr
    obtain rfl:e=f:=by omega
    have hd:256-(e+1)<256:=by omega
    have hd1:256-e=256-(e+1)+1:=by omega
    have hd2:255-e=256-(e+1):=by omega
    rw[hd2]at h2 h3
    have I1:=ih (ndAt ns n).l b (by omega) (by rw[hd1];exact Zeb hz) h1
    have I2:=ih (ndAt ns n).r (turnD b (256-(e+1))) (by omega) (by rw[hd1];exact Zec hz hd) h2
    rw[hd1]at I1 I2
    obtain⟨u1,s1,a1,b1,c1,m1⟩:=I1
    obtain⟨u2,s2,a2,b2,c2,m2⟩:=I2
    rw[ZbV h hl,h4]
    refine⟨YhO hd u1 u2,Zlj hd hz s1 s2 u1 u2,fun h=>by omega,fun h=>by omega,fun _=>?_,fun p hp=>?_⟩
    ·rw[Vx3]
     have l1:=@ZnD ns e (ndAt ns n).l b
     have l2:=@ZnD ns e (ndAt ns n).r (turnD b (256-(e+1)))
     generalize rgt ns e (ndAt ns n).l b=x at *
     generalize rgt ns e (ndAt ns n).r (turnD b (256-(e+1)))=y at *
     rcases (show x=2∨y=2∨(x=1∧y=1) by omega) with hx|hy|⟨hx,hy⟩
     ·have:=c1 hx;omega
     ·have:=c2 hy;omega
     ·have:=b1 hx;have:=b2 hy;omega
    ·rcases List.mem_append.1 hp with h|h
     ·exact m1 p h
     ·exact m2 p h
theorem ZiH:∀(e:Nat) (n:Int) (b:Dg),e≤256→Zr (256-e) b→0≤rgt ns e n b→sumP ns e n=rootP e (forP ns e n) (256-e):=by
 intro e
 induction e with
 |zero=>
  intro n b _ hz hr
  by_cases h:n=0
  ·subst h
   rw[ZaU,ZgW,Zf8]
  ·cases hl:(ndAt ns n).leaf with
   |false=>rw[ZcN h hl]at hr;omega
   |true=>rw[ZaT h hl,Zic h hl,Zf9]
 |succ e ih=>
  intro n b he hz hr
  by_cases h:n=0
  ·subst h
   rw[ZaU,ZgW,Zf8]
  ·cases hl:(ndAt ns n).leaf with
   |true=>rw[ZaT h hl,Zic h hl,Zf9]
   |false=>
    have hs:=Zbz (e+1) n b he hz hr
    obtain⟨f,hf,h1,h2,h3,h4⟩:=Za2 h hl hr
    obtain rfl:e=f:=by omega
    have hd:256-(e+1)<256:=by omega
    have hd1:256-e=256-(e+1)+1:=by omega
    have hd2:255-e=256-(e+1):=by omega
    rw[hd2]at h2
    have z1:Zr (256-e) b:=by rw[hd1];exact Zeb hz
    have z2:Zr (256-e) (turnD b (256-(e+1))):=by rw[hd1];exact Zec hz hd
    have u1:=(Zbz e _ b (by omega) z1 h1).1
    have u2:=(Zbz e _ _ (by omega) z2 h2).1
    rw[hd1]at u1 u2
    have hzz:=ZnR hd hz u1 u2
    rw[Zla _ _ (hs.2.2.2.2.1 h4),Zkk h hl,ZbV h hl,hzz.1,hzz.2,ih _ b (by omega) z1 h1,ih _ _ (by omega) z2 h2,hd1]
theorem Znj{α:Type}[DecidableEq α]:∀l m:List α,l.Nodup→(∀ x∈l,x∈m)→l.length≤m.length
 |[],m,_,_=>by simp
 |x::l,m,hn,hs=>by
  have hx:=hs x (by simp)
  have hn2:=List.nodup_cons.1 hn
  have:=Znj l (m.erase x) hn2.2 fun y hy=>(List.mem_erase_of_ne (fun e=>hn2.1 (by rw[← e];exact hy))).2 (hs y (by simp[hy]))
  rw[List.length_erase_of_mem hx]at this
  have:=List.length_pos_of_mem hx
  simp only[List.length_cons]
  omega
theorem ZgN(he:e≤256)(hz:Zr (256-e) b)(hr:0≤rgt ns e n b):(forP ns e n).length≤ns.length:=by
 obtain⟨_,hs,_,_,_,hm⟩:=Zbz e n b he hz hr
 have h1:((forP ns e n).map (·.k)).Nodup:=by
  rw[List.Nodup,List.pairwise_map]
  exact hs.imp fun {p q} h=>Zg7 h
 have h2:=Znj _ (ns.map (·.k)) h1 fun k hk=>by
  obtain⟨p,hp,rfl⟩:=List.mem_map.1 hk
  obtain⟨x,hx,_,rfl⟩:=hm p hp
  exact List.mem_map.2 ⟨x,hx,rfl⟩
 simpa using h2
theorem ZpK(ho:Ones ns){x:Nd}(hx:x∈ns)(hl:x.leaf=true):valB x.v=true:=by
 obtain⟨i,hi,rfl⟩:=List.getElem_of_mem hx
 have:=ho i hi
 unfold oneN at this
 rw[if_pos hl]at this
 simp only[Bool.and_eq_true]at this
 exact this.1.1
end
def mayT(t:Tr):Bool:=decide (t.ns.length≤262144∧0≤t.root∧t.root≤t.ns.length∧Ones t.ns∧0≤rgt t.ns 256 t.root z0)
theorem ZaX{t:Tr}:mayT t=true↔t.ns.length≤262144∧0≤t.root∧t.root≤t.ns.length∧Ones t.ns∧0≤rgt t.ns 256 t.root z0:=by unfold mayT;rw[decide_eq_true_eq]
def allT(t:Tr):List Pr:=forP t.ns 256 t.root
theorem Zbp{t:Tr}(h:mayT t=true):Srt (allT t)∧(∀ p∈allT t,valB p.v=true)∧(allT t).length≤t.ns.length∧sumP t.ns 256 t.root=rootP 256 (allT t) 0:=by
 obtain⟨h1,h2,h3,h4,h5⟩:=ZaX.1 h
 obtain⟨_,hs,_,_,_,hm⟩:=Zbz 256 t.root z0 (Vx8 _) Zfk h5
 refine⟨hs,fun p hp=>?_,ZgN (Vx8 _) Zfk h5,ZiH 256 t.root z0 (Vx8 _) Zfk h5⟩
 obtain⟨x,hx,hl,rfl⟩:=hm p hp
 exact ZpK h4 hx hl
def ndC(x:Nd)(A:Option Addr)(c:Nat):List Value:=[.bool x.leaf]++(x.k.1.map bv++([.slice A x.v.length c]++([.int .i64 x.l]++[.int .i64 x.r])))
def I64(n:Int):Prop:= -9223372036854775808≤n∧n≤9223372036854775807
theorem Zdy{W:World}{b o:Nat}{xs ys zs:List Value}(h:W.rangeAt b o (xs++(ys++zs)))(k:Nat)(hk:xs.length=k):W.rangeAt b (o+k) ys:=fun j v hv=>by
 have:=h (k+j) v (by
  rw[List.getElem?_append_right (by omega),List.getElem?_append_left (by have:=(List.getElem?_eq_some_iff.1 hv).1;omega),hk,Nat.add_sub_cancel_left]
  exact hv)
 rw[← Nat.add_assoc]at this
 exact this
theorem Zny{W:World}{b o:Nat}{v:Value}(h:W.rangeAt b o [v]):W.cell? ⟨b,o,none⟩=some v:=h 0 v rfl
section
variable{W W':World}{b o:Nat}{x:Nd}{A:Option Addr}{c:Nat}
theorem Zng(h:W.rangeAt b o (ndC x A c)):W.cell? ⟨b,o,none⟩=some (.bool x.leaf):=h 0 _ rfl
theorem YiM(h:W.rangeAt b o (ndC x A c)):W.rangeAt b (o+1) (x.k.1.map bv):=Zdy (xs:=[Value.bool x.leaf]) h 1 rfl
theorem YgT(h:W.rangeAt b o (ndC x A c))(j:Nat)(v:Value)(hv:([.slice A x.v.length c,.int .i64 x.l,.int .i64 x.r]:List Value)[j]? =some v):W.cell? ⟨b,o+(33+j),none⟩=some v:=by
 refine h (33+j) v ?_
 have e:ndC x A c=([Value.bool x.leaf]++x.k.1.map bv)++[.slice A x.v.length c,.int .i64 x.l,.int .i64 x.r]:=by simp[ndC]
 have l:([Value.bool x.leaf]++x.k.1.map bv).length=33:=by simp[x.k.2]
 rw[e,List.getElem?_append_right (by omega),l,Nat.add_sub_cancel_left]
 exact hv
theorem ZzZ(h:W.rangeAt b o (ndC x A c)):W.cell? ⟨b,o+33,none⟩=some (.slice A x.v.length c):=YgT h 0 _ rfl
theorem Yj1(h:W.rangeAt b o (ndC x A c)):W.cell? ⟨b,o+34,none⟩=some (.int .i64 x.l):=YgT h 1 _ rfl
theorem Ykq(h:W.rangeAt b o (ndC x A c)):W.cell? ⟨b,o+35,none⟩=some (.int .i64 x.r):=YgT h 2 _ rfl
end
structure BoxN (W:World) (g:Nat) (x:Nd) (A:Option Addr) (c:Nat):Prop where
 all:W.rangeAt g 0 (ndC x A c)
 leaf:W.cell? ⟨g,0,none⟩=some (.bool x.leaf)
 key:W.rangeAt g 1 (x.k.1.map bv)
 val:W.cell? ⟨g,33,none⟩=some (.slice A x.v.length c)
 l:W.cell? ⟨g,34,none⟩=some (.int .i64 x.l)
 r:W.cell? ⟨g,35,none⟩=some (.int .i64 x.r)
theorem BoxN.of{W:World}{g:Nat}{x:Nd}{A:Option Addr}{c:Nat}(h:W.rangeAt g 0 (ndC x A c)):BoxN W g x A c:=by
 have h1:=YiM h
 have h2:=ZzZ h
 have h3:=Yj1 h
 have h4:=Ykq h
 rw[Nat.zero_add]at h1 h2 h3 h4
 exact⟨h,Zng h,h1,h2,h3,h4⟩
theorem BoxN.bel{W W':World}{g:Nat}{x:Nd}{A:Option Addr}{c:Nat}(h:BoxN W g x A c)(hb:Below W.heap.size W W'):BoxN W' g x A c:=BoxN.of (Zab hb h.all)
theorem BoxN.lt{W:World}{g:Nat}{x:Nd}{A:Option Addr}{c:Nat}(h:BoxN W g x A c):g<W.heap.size:=Vx5 _ _ h.leaf
theorem BoxN.heap{W:World}{g:Nat}{x:Nd}{A:Option Addr}{c:Nat}{t:TypeId}(h:W.heap[g]? =some (.cells (ndC x A c).toArray t (0,0))):BoxN W g x A c:=BoxN.of (Zae h)
theorem BoxN.new(W:World)(x:Nd)(A:Option Addr)(c:Nat)(t:TypeId):BoxN (W.alloc (.cells (ndC x A c).toArray t)) W.heap.size x A c:=BoxN.heap (Vx0 W _)
structure BoxT (W:World) (g:Nat) (A:Option Addr) (n c:Nat) (root:Int):Prop where
 all:W.rangeAt g 0 [.slice A n c,.int .i64 root]
 ns:W.cell? ⟨g,0,none⟩=some (.slice A n c)
 rt:W.cell? ⟨g,1,none⟩=some (.int .i64 root)
theorem BoxT.of{W:World}{g:Nat}{A:Option Addr}{n c:Nat}{root:Int}(h:W.rangeAt g 0 [.slice A n c,.int .i64 root]):BoxT W g A n c root:=⟨h,h 0 _ rfl,h 1 _ rfl⟩
theorem BoxT.bel{W W':World}{g:Nat}{A:Option Addr}{n c:Nat}{root:Int}(h:BoxT W g A n c root)(hb:Below W.heap.size W W'):BoxT W' g A n c root:=BoxT.of (Zab hb h.all)
theorem BoxT.new(W:World)(A:Option Addr)(n c:Nat)(root:Int)(t:TypeId):BoxT (W.alloc (.cells #[.slice A n c,.int .i64 root] t)) W.heap.size A n c root:=BoxT.of (Zae (l:=[.slice A n c,.int .i64 root]) (Vx0 W _))
theorem BoxT.lt{W:World}{g:Nat}{A:Option Addr}{n c:Nat}{root:Int}(h:BoxT W g A n c root):g<W.heap.size:=Vx5 _ _ h.ns
theorem Zc6{ns:List Nd}(ho:Ones ns){n:Int}(h0:0<n)(hn:n≤ns.length):∃(j:Nat) (hj:j<ns.length),n=(j:Int)+1∧ndAt ns n=ns[j]∧oneN ns[j] j=true:=by
 obtain⟨j,rfl⟩:∃j:Nat,n=(j:Int)+1:=⟨(n-1).toNat,by omega⟩
 have hj:j<ns.length:=by omega
 exact⟨j,hj,rfl,Zfn hj,ho j hj⟩
theorem Ze0{x:Nd}{a:Nat}(h:oneN x a=true)(hl:x.leaf=false):0≤x.l∧x.l≤a∧0≤x.r∧x.r≤a∧¬(x.l=0∧x.r=0)∧x.k=z0∧x.v=[]:=by
 unfold oneN at h
 rw[hl]at h
 simp at h
 exact⟨h.1.1.1,h.1.1.2.1,h.1.1.2.2.1,h.1.1.2.2.2.1,fun q=>h.1.1.2.2.2.2.elim (fun a=>a q.1) (fun a=>a q.2),h.1.2,h.2⟩
structure Pf where
 k:Dg
 e:UInt8
 o:Dg
 v:List UInt8
 ss:List Dg
deriving DecidableEq
instance:Enc Pf:=Enc.by_ fun x=>(x.k,x.e,x.o,x.v,x.ss)
def pfC(x:Pf)(A:Option Addr)(c:Nat)(D:Option Addr)(d:Nat):List Value:=x.k.1.map bv++([bv x.e]++(x.o.1.map bv++([.slice A x.v.length c]++[.slice D x.ss.length d])))
structure BoxP (W:World) (g:Nat) (x:Pf) (A:Option Addr) (c:Nat) (D:Option Addr) (d:Nat):Prop where
 all:W.rangeAt g 0 (pfC x A c D d)
 key:W.rangeAt g 0 (x.k.1.map bv)
 en:W.cell? ⟨g,32,none⟩=some (bv x.e)
 oth:W.rangeAt g 33 (x.o.1.map bv)
 val:W.cell? ⟨g,65,none⟩=some (.slice A x.v.length c)
 sd:W.cell? ⟨g,66,none⟩=some (.slice D x.ss.length d)
theorem BoxP.of{W:World}{g:Nat}{x:Pf}{A D:Option Addr}{c d:Nat}(h:W.rangeAt g 0 (pfC x A c D d)):BoxP W g x A c D d:=by
 have hk:(x.k.1.map bv).length=32:=by rw[Vx6,x.k.2]
 have ho:(x.o.1.map bv).length=32:=by rw[Vx6,x.o.2]
 have h1:=Zdy (xs:=[]) h 0 rfl
 have h2:=Zdy (xs:=x.k.1.map bv) h 32 hk
 have e:pfC x A c D d=(x.k.1.map bv++[bv x.e])++(x.o.1.map bv++([.slice A x.v.length c]++[.slice D x.ss.length d])):=by simp[pfC]
 have e2:pfC x A c D d=(x.k.1.map bv++[bv x.e]++x.o.1.map bv)++([.slice A x.v.length c]++[.slice D x.ss.length d]):=by simp[pfC]
 have e3:pfC x A c D d=(x.k.1.map bv++[bv x.e]++x.o.1.map bv++[.slice A x.v.length c])++([.slice D x.ss.length d]++[]):=by simp[pfC]
 have h3:=h
 rw[e]at h3
 replace h3:=Zdy h3 33 (by simp[hk])
 have h4:=h
 rw[e2]at h4
 replace h4:=Zdy h4 65 (by simp[hk,ho])
 have h5:=h
 rw[e3]at h5
 replace h5:=Zdy h5 66 (by simp[hk,ho])
 have g0:W.rangeAt g 0 (x.k.1.map bv):=fun j v hv=>h j v (by unfold pfC;rw[List.getElem?_append_left (List.getElem?_eq_some_iff.1 hv).1];exact hv)
 rw[Nat.zero_add]at h2 h3 h4 h5
 exact⟨h,g0,Zny h2,h3,Zny h4,Zny h5⟩
theorem BoxP.bel{W W':World}{g:Nat}{x:Pf}{A D:Option Addr}{c d:Nat}(h:BoxP W g x A c D d)(hb:Below W.heap.size W W'):BoxP W' g x A c D d:=BoxP.of (Zab hb h.all)
theorem BoxP.lt{W:World}{g:Nat}{x:Pf}{A D:Option Addr}{c d:Nat}(h:BoxP W g x A c D d):g<W.heap.size:=Vx5 _ _ h.en
theorem BoxP.new(W:World)(x:Pf)(A:Option Addr)(c:Nat)(D:Option Addr)(d:Nat)(t:TypeId):BoxP (W.alloc (.cells (pfC x A c D d).toArray t)) W.heap.size x A c D d:=BoxP.of (Zae (Vx0 W _))
theorem BoxP.heap{W:World}{g:Nat}{x:Pf}{A D:Option Addr}{c d:Nat}{t:TypeId}(h:W.heap[g]? =some (.cells (pfC x A c D d).toArray t (0,0))):BoxP W g x A c D d:=BoxP.of (Zae h)
def forkN(l r:Int):Nd:=⟨false,z0,[],l,r⟩
def leafN(k:Dg)(v:List UInt8):Nd:=⟨true,k,v,0,0⟩
def lftD(ns:List Nd)(d:Nat)(n:Int):Int:=if (ndAt ns n).leaf=true then (if kb (ndAt ns n).k.1 d=1 then 0 else n) else (ndAt ns n).l
def rgtD(ns:List Nd)(d:Nat)(n:Int):Int:=if (ndAt ns n).leaf=true then (if kb (ndAt ns n).k.1 d=1 then n else 0) else (ndAt ns n).r
def putN(ns:List Nd)(k:Dg)(v:List UInt8):Nat→Int→List Nd×Int
 |e,n=>if n=0∨((ndAt ns n).leaf=true∧(ndAt ns n).k=k) then (ns++[leafN k v],(ns.length:Int)+1) else match e with
  |0=>(ns,0)
  |e+1=>if kb k.1 (255-e)=1 then ((putN ns k v e (rgtD ns (255-e) n)).1++[forkN (lftD ns (255-e) n) (putN ns k v e (rgtD ns (255-e) n)).2],((putN ns k v e (rgtD ns (255-e) n)).1.length:Int)+1)
   else ((putN ns k v e (lftD ns (255-e) n)).1++[forkN (putN ns k v e (lftD ns (255-e) n)).2 (rgtD ns (255-e) n)],((putN ns k v e (lftD ns (255-e) n)).1.length:Int)+1)
def leafQ(ns:List Nd)(n:Int):Bool:=decide (n≠0)&&(ndAt ns n).leaf
def singleQ(ns:List Nd)(a b:Int):Int:=if (leafQ ns a&&decide (b=0))=true then a else if (leafQ ns b&&decide (a=0))=true then b else 0
def joinN(ns:List Nd)(l r:Int):List Nd×Int:=if singleQ ns l r=0 then (ns++[forkN l r],(ns.length:Int)+1) else (ns,singleQ ns l r)
def dropN(ns:List Nd)(k:Dg):Nat→Int→List Nd×Int
 |e,n=>if (ndAt ns n).leaf=true then (ns,0) else match e with
  |0=>(ns,0)
  |e+1=>if kb k.1 (255-e)=1 then joinN (dropN ns k e (ndAt ns n).r).1 (ndAt ns n).l (dropN ns k e (ndAt ns n).r).2
   else joinN (dropN ns k e (ndAt ns n).l).1 (dropN ns k e (ndAt ns n).l).2 (ndAt ns n).r
section
variable{ns ms:List Nd}{e:Nat}{n:Int}{b k:Dg}{v:List UInt8}
theorem ZpU(h:n=0∨((ndAt ns n).leaf=true∧(ndAt ns n).k=k)):putN ns k v e n=(ns++[leafN k v],(ns.length:Int)+1):=by cases e<;>simp[putN,h]
theorem ZrY(h:¬(n=0∨((ndAt ns n).leaf=true∧(ndAt ns n).k=k))):putN ns k v (e+1) n=if kb k.1 (255-e)=1 then ((putN ns k v e (rgtD ns (255-e) n)).1++[forkN (lftD ns (255-e) n) (putN ns k v e (rgtD ns (255-e) n)).2],((putN ns k v e (rgtD ns (255-e) n)).1.length:Int)+1)
   else ((putN ns k v e (lftD ns (255-e) n)).1++[forkN (putN ns k v e (lftD ns (255-e) n)).2 (rgtD ns (255-e) n)],((putN ns k v e (lftD ns (255-e) n)).1.length:Int)+1):=by rw[putN,if_neg h]
theorem Zov(h:(ndAt ns n).leaf=true):dropN ns k e n=(ns,0):=by cases e<;>simp[dropN,h]
theorem Zou(h:(ndAt ns n).leaf=false):dropN ns k (e+1) n=if kb k.1 (255-e)=1 then joinN (dropN ns k e (ndAt ns n).r).1 (ndAt ns n).l (dropN ns k e (ndAt ns n).r).2
   else joinN (dropN ns k e (ndAt ns n).l).1 (dropN ns k e (ndAt ns n).l).2 (ndAt ns n).r:=by rw[dropN,if_neg (by rw[h];decide)]
theorem Zl9(h0:0<n)(hn:n≤ns.length):ndAt (ns++ms) n=ndAt ns n:=by
 unfold ndAt
 rw[List.getD_eq_getElem?_getD,List.getD_eq_getElem?_getD,List.getElem?_append_left (by omega)]
theorem ZrI(x:Nd):ndAt (ns++[x]) ((ns.length:Int)+1)=x:=by
 unfold ndAt
 rw[show ((ns.length:Int)+1).toNat-1=ns.length by omega,List.getD_eq_getElem?_getD,List.getElem?_append_right (Vx8 _),Nat.sub_self]
 rfl
theorem ZgT(ho:Ones ns)(h0:0<n)(hn:n≤ns.length)(hl:(ndAt ns n).leaf=false):(0≤(ndAt ns n).l∧(ndAt ns n).l<n)∧(0≤(ndAt ns n).r∧(ndAt ns n).r<n)∧¬((ndAt ns n).l=0∧(ndAt ns n).r=0):=by
 obtain⟨j,hj,rfl,hx,hone⟩:=Zc6 ho h0 hn
 obtain⟨k1,k2,k3,k4,k5,_⟩:=Ze0 hone (by rw[← hx];exact hl)
 rw[hx]
 exact⟨⟨k1,by omega⟩,⟨k3,by omega⟩,k5⟩
theorem YdM(ho:Ones ns)(hm:∀i (h:i<ms.length),oneN ms[i] (ns.length+i)=true):Ones (ns++ms):=fun i hi=>by
 rcases Nat.lt_or_ge i ns.length with h|h
 ·rw[List.getElem_append_left h];exact ho i h
 ·rw[List.getElem_append_right h]
  have:=hm (i-ns.length) (by rw[Vx3]at hi;omega)
  rw[show ns.length+(i-ns.length)=i by omega]at this
  exact this
theorem ZrM{x:Nd}(ho:Ones ns)(hx:oneN x ns.length=true):Ones (ns++[x]):=YdM ho fun i hi=>by
 obtain rfl:i=0:=by simpa using hi
 exact hx
theorem Zjl(ho:Ones ns):∀(e:Nat) (n:Int) (b:Dg),0≤n→n≤ns.length→rgt (ns++ms) e n b=rgt ns e n b:=by
 intro e
 induction e with
 |zero=>
  intro n b h0 hn
  by_cases hz:n=0
  ·subst hz;rw[ZdK,ZdK]
  ·have ha:=Zl9 (ms:=ms) (show 0<n by omega) hn
   cases hl:(ndAt ns n).leaf with
   |true=>rw[Zck hz hl,Zck hz (by rw[ha];exact hl),ha]
   |false=>rw[ZcN hz hl,ZcN hz (by rw[ha];exact hl)]
 |succ e ih=>
  intro n b h0 hn
  by_cases hz:n=0
  ·subst hz;rw[ZdK,ZdK]
  ·have ha:=Zl9 (ms:=ms) (show 0<n by omega) hn
   cases hl:(ndAt ns n).leaf with
   |true=>rw[Zck hz hl,Zck hz (by rw[ha];exact hl),ha]
   |false=>
    obtain⟨k1,k2,_⟩:=ZgT ho (by omega) hn hl
    rw[Zhn hz hl,Zhn hz (by rw[ha];exact hl),ha,ih _ _ k1.1 (by omega),ih _ _ k2.1 (by omega)]
theorem Zhd(ho:Ones ns):∀(e:Nat) (n:Int),0≤n→n≤ns.length→forP (ns++ms) e n=forP ns e n:=by
 intro e
 induction e with
 |zero=>
  intro n h0 hn
  by_cases hz:n=0
  ·subst hz;rw[ZaU,ZaU]
  ·have ha:=Zl9 (ms:=ms) (show 0<n by omega) hn
   cases hl:(ndAt ns n).leaf with
   |true=>rw[ZaT hz hl,ZaT hz (by rw[ha];exact hl),ha]
   |false=>simp[forP,hz,hl,ha]
 |succ e ih=>
  intro n h0 hn
  by_cases hz:n=0
  ·subst hz;rw[ZaU,ZaU]
  ·have ha:=Zl9 (ms:=ms) (show 0<n by omega) hn
   cases hl:(ndAt ns n).leaf with
   |true=>rw[ZaT hz hl,ZaT hz (by rw[ha];exact hl),ha]
   |false=>
    obtain⟨k1,k2,_⟩:=ZgT ho (by omega) hn hl
    rw[ZbV hz hl,ZbV hz (by rw[ha];exact hl),ha,ih _ k1.1 (by omega),ih _ k2.1 (by omega)]
theorem Yae{l r:Int}{a:Nat}(l0:0≤l)(la:l≤a)(r0:0≤r)(ra:r≤a)(h:¬(l=0∧r=0)):oneN (forkN l r) a=true:=by
 unfold oneN forkN
 simp only[Bool.false_eq_true,if_false]
 simp[l0,la,r0,ra]
 omega
theorem Yaf{a:Nat}(hv:valB v=true):oneN (leafN k v) a=true:=by
 unfold oneN leafN
 simp[hv]
theorem Zk8(he:e≤256)(hz:Zr (256-e) b)(hr:0≤rgt ns e n b):(rgt ns e n b=0↔(forP ns e n).length=0)∧(rgt ns e n b=1↔(forP ns e n).length=1)∧(rgt ns e n b=2↔2≤(forP ns e n).length):=by
 obtain⟨_,_,h0,h1,h2,_⟩:=Zbz e n b he hz hr
 have hle:=@ZnD ns e n b
 have a0:rgt ns e n b=0→(forP ns e n).length=0:=fun h=>by rw[h0 h];rfl
 generalize rgt ns e n b=q at *
 rcases (show q=0∨q=1∨q=2 by omega) with rfl|rfl|rfl
 ·have:=a0 rfl;simp[this]
 ·have:=h1 rfl;simp[this]
 ·have:=h2 rfl;omega
theorem ZkN{l r:Int}(ho:Ones ns)(he:e+1≤256)(hz:Zr (255-e) b)(l0:0≤l)(ln:l≤ns.length)(r0:0≤r)(rn:r≤ns.length)
  (hl:0≤rgt ns e l b) (hr:0≤rgt ns e r (turnD b (255-e))) (h2:2≤(forP ns e l).length+(forP ns e r).length):
  Ones (ns++[forkN l r])∧0≤rgt (ns++[forkN l r]) (e+1) ((ns.length:Int)+1) b∧forP (ns++[forkN l r]) (e+1) ((ns.length:Int)+1)=forP ns e l++forP ns e r:=by
 have hne:(ns.length:Int)+1≠0:=by omega
 have ha:ndAt (ns++[forkN l r]) ((ns.length:Int)+1)=forkN l r:=ZrI _
 have hd:255-e<256:=by omega
 have z1:Zr (256-e) b:=by rw[show 256-e=255-e+1 by omega];exact Zeb hz
 have z2:Zr (256-e) (turnD b (255-e)):=by rw[show 256-e=255-e+1 by omega];exact Zec hz hd
 have q1:=Zk8 (by omega) z1 hl
 have q2:=Zk8 (by omega) z2 hr
 have hlr:¬(l=0∧r=0):=by
  rintro ⟨rfl,rfl⟩
  rw[ZaU]at h2
  simp at h2
 refine⟨ZrM ho (Yae l0 ln r0 rn hlr),?_,?_⟩
 ·rw[Zhn hne (by rw[ha];rfl),ha]
  show 0≤if rgt (ns++[forkN l r]) e l b<0 then (-1:Int) else if rgt (ns++[forkN l r]) e r (turnD b (255-e))<0∨rgt (ns++[forkN l r]) e l b+rgt (ns++[forkN l r]) e r (turnD b (255-e))<2 then -1 else 2
  rw[Zjl ho e l b l0 ln,Zjl ho e r _ r0 rn]
  have w1:=@ZnD ns e l b
  have w2:=@ZnD ns e r (turnD b (255-e))
  generalize rgt ns e l b=x at *
  generalize rgt ns e r (turnD b (255-e))=y at *
  rw[if_neg (by omega),if_neg (by omega)]
  decide
 ·rw[ZbV hne (by rw[ha];rfl),ha]
  show forP (ns++[forkN l r]) e l++forP (ns++[forkN l r]) e r=_
  rw[Zhd ho e l l0 ln,Zhd ho e r r0 rn]
theorem YbP{l r:List Pr}{d:Nat}(hd:d<256)(hz:Zr d b)(u1:Und (d+1) b l)(u2:Und (d+1) (turnD b d) r)(s1:Srt l)(s2:Srt r)(hk:∀i,i<d→kb k.1 i=kb b.1 i)(h0:kb k.1 d=0):withP l k v++r=withP (l++r) k v:=by
 have uk:Und (d+1) b (withP l k v):=fun p hp i hi=>by
  rcases Zct.1 hp with rfl|⟨h,_⟩
  ·rcases Nat.lt_or_ge i d with h|h
   ·exact hk i h
   ·obtain rfl:i=d:=by omega
    rw[h0,hz i (Vx8 _) hd]
  ·exact u1 p h i hi
 have hkr:∀p∈r,p.k≠k:=fun p hp e=>by
  have:=u2 p hp d (by omega)
  rw[ZcQ hz hd,e,h0]at this
  cases this
 refine Zli (Zlj hd hz (Zc8 s1 k v) s2 uk u2) (Zc8 (Zlj hd hz s1 s2 u1 u2) k v) fun p=>?_
 rw[List.mem_append,Zct,Zct,List.mem_append]
 constructor
 ·rintro ((h|⟨h,q⟩)|h)
  ·exact .inl h
  ·exact .inr ⟨.inl h,q⟩
  ·exact .inr ⟨.inr h,hkr p h⟩
 ·rintro (h|⟨h|h,q⟩)
  ·exact .inl (.inl h)
  ·exact .inl (.inr ⟨h,q⟩)
  ·exact .inr h
theorem ZxC{l r:List Pr}{d:Nat}(hd:d<256)(hz:Zr d b)(u1:Und (d+1) b l)(u2:Und (d+1) (turnD b d) r)(s1:Srt l)(s2:Srt r)(hk:∀i,i<d→kb k.1 i=kb b.1 i)(h1:kb k.1 d=1):l++withP r k v=withP (l++r) k v:=by
 have uk:Und (d+1) (turnD b d) (withP r k v):=fun p hp i hi=>by
  rcases Zct.1 hp with rfl|⟨h,_⟩
  ·rcases Nat.lt_or_ge i d with h|h
   ·rw[Zgy hd h];exact hk i h
   ·obtain rfl:i=d:=by omega
    rw[ZcQ hz hd];exact h1
  ·exact u2 p h i hi
 have hkl:∀p∈l,p.k≠k:=fun p hp e=>by
  have:=u1 p hp d (by omega)
  rw[hz d (Vx8 _) hd,e,h1]at this
  cases this
 refine Zli (Zlj hd hz s1 (Zc8 s2 k v) u1 uk) (Zc8 (Zlj hd hz s1 s2 u1 u2) k v) fun p=>?_
 rw[List.mem_append,Zct,Zct,List.mem_append]
 constructor
 ·rintro (h|h|⟨h,q⟩)
  ·exact .inr ⟨.inl h,hkl p h⟩
  ·exact .inl h
  ·exact .inr ⟨.inr h,q⟩
 ·rintro (h|⟨h|h,q⟩)
  ·exact .inr (.inl h)
  ·exact .inl h
  ·exact .inr (.inr ⟨h,q⟩)
theorem ZsI{l r:List Pr}{d:Nat}(hd:d<256)(hz:Zr d b)(u2:Und (d+1) (turnD b d) r)(h0:kb k.1 d=0):withoutP l k++r=withoutP (l++r) k:=by
 have hkr:∀p∈r,p.k≠k:=fun p hp e=>by
  have:=u2 p hp d (by omega)
  rw[ZcQ hz hd,e,h0]at this
  cases this
 unfold withoutP
 rw[List.filter_append]
 congr 1
 exact(List.filter_eq_self.2 fun p hp=>Vy2 (hkr p hp)).symm
theorem Zql{l r:List Pr}{d:Nat}(hd:d<256)(hz:Zr d b)(u1:Und (d+1) b l)(h1:kb k.1 d=1):l++withoutP r k=withoutP (l++r) k:=by
 have hkl:∀p∈l,p.k≠k:=fun p hp e=>by
  have:=u1 p hp d (by omega)
  rw[hz d (Vx8 _) hd,e,h1]at this
  cases this
 unfold withoutP
 rw[List.filter_append]
 congr 1
 exact(List.filter_eq_self.2 fun p hp=>Vy2 (hkl p hp)).symm
theorem Zkq:withP [] k v=[⟨k,v⟩]:=by simp[withP,withoutP,cnt]
theorem ZsH{u:List UInt8}:withP [⟨k,u⟩] k v=[⟨k,v⟩]:=by
 refine Zli (Zc8 (List.pairwise_singleton _ _) k v) (List.pairwise_singleton _ _) fun p=>?_
 rw[Zct,Vy4,Vy4]
 constructor
 ·rintro (h|⟨rfl,h⟩)
  ·exact h
  ·exact absurd rfl h
 ·exact .inl
theorem ZnY{l:List Pr}(h:∃p∈l,p.k≠k):2≤(withP l k v).length:=by
 rw[Zb3]
 obtain⟨p,hp,hk⟩:=h
 have:p∈withoutP l k:=List.mem_filter.2 ⟨hp,Vy2 hk⟩
 have:=List.length_pos_of_mem this
 omega
theorem Zos(ho:Ones ns)(h0:0<n)(hn:n≤ns.length)(he:e+1≤256)(hz:Zr (255-e) b)(hr:0≤rgt ns (e+1) n b):
  (0≤lftD ns (255-e) n∧lftD ns (255-e) n≤ns.length)∧(0≤rgtD ns (255-e) n∧rgtD ns (255-e) n≤ns.length)∧
  0≤rgt ns e (lftD ns (255-e) n) b∧0≤rgt ns e (rgtD ns (255-e) n) (turnD b (255-e))∧forP ns (e+1) n=forP ns e (lftD ns (255-e) n)++forP ns e (rgtD ns (255-e) n)∧
  1≤(forP ns (e+1) n).length:=by
 have hz2:Zr (256-(e+1)) b:=by rw[show 256-(e+1)=255-e by omega];exact hz
 have hd:255-e<256:=by omega
 cases hl:(ndAt ns n).leaf with
 |false=>
  obtain⟨k1,k2,_⟩:=ZgT ho h0 hn hl
  obtain⟨f,hf,r1,r2,r3,_⟩:=Za2 (by omega) hl hr
  obtain rfl:e=f:=by omega
  have q:=(Zk8 he hz2 hr).2.2.1
  unfold lftD rgtD
  rw[hl]
  simp only[Bool.false_eq_true,if_false]
  refine⟨⟨k1.1,by omega⟩,⟨k2.1,by omega⟩,r1,r2,ZbV (by omega) hl,?_⟩
  obtain⟨_,_,_,_,_,h5⟩:=Za2 (by omega) hl hr
  have:=q h5
  omega
 |true=>
  have hne:n≠0:=by omega
  have hs:=hr
  rw[Zck hne hl]at hs
  have hs:256-(e+1)≤shared (ndAt ns n).k.1 b.1:=by
   split at hs
   ·omega
   ·omega
  unfold lftD rgtD
  rw[hl]
  simp only[if_true]
  have hbit:=Zeu (ndAt ns n).k.1 (255-e)
  rcases (show kb (ndAt ns n).k.1 (255-e)=0∨kb (ndAt ns n).k.1 (255-e)=1 by omega) with hb|hb
  ·rw[if_neg (by omega),if_neg (by omega)]
   refine⟨⟨by omega,hn⟩,⟨Int.le_refl _,by omega⟩,?_,by rw[ZdK];decide,by rw[ZaT hne hl,ZaT hne hl,ZaU];rfl,by rw[ZaT hne hl];exact Vx8 1⟩
   rw[Zck hne hl,if_neg]
   ·decide
   ·intro hlt
    have h1:shared (ndAt ns n).k.1 b.1=255-e:=by omega
    have:=ZdX (a:=(ndAt ns n).k.1) (b:=b.1) (by omega)
    rw[h1,hb,hz _ (Vx8 _) hd]at this
    exact this rfl
  ·rw[if_pos hb,if_pos hb]
   refine⟨⟨Int.le_refl _,by omega⟩,⟨by omega,hn⟩,by rw[ZdK];decide,?_,by rw[ZaT hne hl,ZaT hne hl,ZaU];rfl,by rw[ZaT hne hl];exact Vx8 1⟩
   rw[Zck hne hl,if_neg]
   ·decide
   ·intro hlt
    have h1:=ZdX (a:=(ndAt ns n).k.1) (b:=(turnD b (255-e)).1) (by omega)
    have h2:shared (ndAt ns n).k.1 (turnD b (255-e)).1<256-e:=hlt
    rcases Nat.lt_or_ge (shared (ndAt ns n).k.1 (turnD b (255-e)).1) (255-e) with h3|h3
    ·rw[Zgy hd h3]at h1
     exact h1 (Zb5 (by omega))
    ·have h4:shared (ndAt ns n).k.1 (turnD b (255-e)).1=255-e:=by omega
     rw[h4,hb,ZcQ hz hd]at h1
     exact h1 rfl
structure PutOk (ns:List Nd) (e:Nat) (b:Dg) (ps:List Pr) (r:List Nd×Int):Prop where
 add:∃ms,r.1=ns++ms∧ms.length≤e+1
 ones:Ones r.1
 pos:0≤r.2
 le:r.2≤r.1.length
 right:0≤rgt r.1 e r.2 b
 all:forP r.1 e r.2=ps
theorem Zva(ho:Ones ns)(hv:valB v=true)(hz:Zr (256-e) b)(hk:∀i,i<256-e→kb k.1 i=kb b.1 i):PutOk ns e b [⟨k,v⟩] (ns++[leafN k v],(ns.length:Int)+1):=by
 have hne:(ns.length:Int)+1≠0:=by omega
 have ha:ndAt (ns++[leafN k v]) ((ns.length:Int)+1)=leafN k v:=ZrI _
 refine⟨⟨_,rfl,by simp⟩,ZrM ho (Yaf hv),by dsimp only;omega,by simp,?_,?_⟩
 ·dsimp only
  rw[Zck hne (by rw[ha];rfl),ha,if_neg]
  ·decide
  ·intro h
   have h2:shared k.1 b.1<256-e:=h
   exact ZdX (a:=k.1) (b:=b.1) (by omega) (hk _ h2)
 ·dsimp only
  rw[ZaT hne (by rw[ha];rfl),ha]
  rfl
theorem Zvb(ho:Ones ns)(hv:valB v=true):∀(e:Nat) (n:Int) (b:Dg),e≤256→0≤n→n≤ns.length→Zr (256-e) b→0≤rgt ns e n b→(∀ i,i<256-e→kb k.1 i=kb b.1 i)→
  PutOk ns e b (withP (forP ns e n) k v) (putN ns k v e n):=by
 intro e
 induction e with
 |zero=>
  intro n b _ h0 hn hz hr hk
  have hc:n=0∨((ndAt ns n).leaf=true∧(ndAt ns n).k=k):=by
   by_cases h:n=0
   ·exact .inl h
   ·cases hl:(ndAt ns n).leaf with
    |false=>rw[ZcN h hl]at hr;omega
    |true=>
     rw[Zck h hl]at hr
     refine .inr ⟨rfl,Ye4 (ZkS (ndAt ns n).k.2 k.2 fun i hi=>?_)⟩
     have:256≤shared (ndAt ns n).k.1 b.1:=by
      split at hr
      ·omega
      ·omega
     rw[Zb5 (a:=(ndAt ns n).k.1) (b:=b.1) (by omega),hk i (by omega)]
  rw[ZpU hc]
  have:withP (forP ns 0 n) k v=[⟨k,v⟩]:=by
   rcases hc with rfl|⟨h1,h2⟩
   ·rw[ZaU,Zkq]
   ·by_cases h:n=0
    ·subst h;rw[ZaU,Zkq]
    ·rw[ZaT h h1,h2,ZsH]
  rw[this]
  exact Zva ho hv hz hk
 |succ e ih=>
  intro n b he h0 hn hz hr hk
  by_cases hc:n=0∨((ndAt ns n).leaf=true∧(ndAt ns n).k=k)
  ·rw[ZpU hc]
   have:withP (forP ns (e+1) n) k v=[⟨k,v⟩]:=by
    rcases hc with rfl|⟨h1,h2⟩
    ·rw[ZaU,Zkq]
    ·by_cases h:n=0
     ·subst h;rw[ZaU,Zkq]
     ·rw[ZaT h h1,h2,ZsH]
   rw[this]
   exact Zva ho hv hz hk
  ·have hne:n≠0:=fun h=>hc (.inl h)
   have hnk:¬((ndAt ns n).leaf=true∧(ndAt ns n).k=k):=fun h=>hc (.inr h)
   have hd:255-e<256:=by omega
   have hz':Zr (255-e) b:=by rw[show 255-e=256-(e+1) by omega];exact hz
   have hk':∀i,i<255-e→kb k.1 i=kb b.1 i:=fun i hi=>hk i (by omega)
   have hbit:=Zeu k.1 (255-e)
   obtain⟨⟨l0,ln⟩,⟨r0,rn⟩,rl,rr,hf,hp⟩:=Zos ho (by omega) hn he hz' hr
   have hl2:2≤(withP (forP ns (e+1) n) k v).length:=by
    cases hl:(ndAt ns n).leaf with
    |true=>
     rw[ZaT hne hl]
     exact ZnY ⟨_,List.mem_singleton.2 rfl,fun h=>hnk ⟨hl,h⟩⟩
    |false=>
     obtain⟨_,hs,_,_,h2,_⟩:=Zbz (e+1) n b he hz hr
     obtain⟨_,_,_,_,_,h5⟩:=Za2 hne hl hr
     have h6:=h2 h5
     by_cases hh:hasP (forP ns (e+1) n) k=true
     ·have:=Ze3 hs hh
      rw[Zb3]
      omega
     ·rw[Zb3,Zeo (by simpa using hh)]
      omega
   generalize hL:lftD ns (255-e) n=l at *
   generalize hR:rgtD ns (255-e) n=r at *
   have z1:Zr (256-e) b:=by rw[show 256-e=255-e+1 by omega];exact Zeb hz'
   have z2:Zr (256-e) (turnD b (255-e)):=by rw[show 256-e=255-e+1 by omega];exact Zec hz' hd
   obtain⟨u1,s1,_,_,_,_⟩:=Zbz e l b (by omega) z1 rl
   obtain⟨u2,s2,_,_,_,_⟩:=Zbz e r (turnD b (255-e)) (by omega) z2 rr
   rw[show 256-e=255-e+1 by omega]at u1 u2
   rw[ZrY hc,hL,hR]
   rcases (show kb k.1 (255-e)=0∨kb k.1 (255-e)=1 by omega) with hb|hb
   ·rw[if_neg (by omega)]
    have I:=ih l b (by omega) l0 ln z1 rl (fun i hi=>by
     rcases Nat.lt_or_ge i (255-e) with h|h
     ·exact hk' i h
     ·obtain rfl:i=255-e:=by omega
      rw[hb,hz' _ (Vx8 _) hd])
    have hall:=YbP (v:=v) hd hz' u1 u2 s1 s2 hk' hb
    rw[← hf]at hall
    generalize putN ns k v e l=q at *
    obtain⟨ns2,m⟩:=q
    obtain⟨⟨ms,rfl,hms⟩,o2,m0,m1,mr,ma⟩:=I
    dsimp only at *
    have hr1:=Zjl (ms:=ms) ho e r (turnD b (255-e)) r0 rn
    have hr2:=Zhd (ms:=ms) ho e r r0 rn
    have F:=ZkN (l:=m) (r:=r) o2 he hz' m0 m1 r0 (by rw[Vx3];omega) mr (by rw[hr1];exact rr) (by rw[ma,hr2,←Vx3,hall];exact hl2)
    refine⟨⟨ms++[forkN m r],by simp,by simp;omega⟩,F.1,by dsimp only;omega,by dsimp only;simp only[Vx3,List.length_singleton];omega,F.2.1,?_⟩
    rw[F.2.2,ma,hr2,hall]
   ·rw[if_pos hb]
    have I:=ih r (turnD b (255-e)) (by omega) r0 rn z2 rr (fun i hi=>by
     rcases Nat.lt_or_ge i (255-e) with h|h
     ·rw[Zgy hd h];exact hk' i h
     ·obtain rfl:i=255-e:=by omega
      rw[hb,ZcQ hz' hd])
    have hall:=ZxC (v:=v) hd hz' u1 u2 s1 s2 hk' hb
    rw[← hf]at hall
    generalize putN ns k v e r=q at *
    obtain⟨ns2,m⟩:=q
    obtain⟨⟨ms,rfl,hms⟩,o2,m0,m1,mr,ma⟩:=I
    dsimp only at *
    have hr1:=Zjl (ms:=ms) ho e l b l0 ln
    have hr2:=Zhd (ms:=ms) ho e l l0 ln
    have F:=ZkN (l:=l) (r:=m) o2 he hz' l0 (by rw[Vx3];omega) m0 m1 (by rw[hr1];exact rl) mr (by rw[ma,hr2,←Vx3,hall];exact hl2)
    refine⟨⟨ms++[forkN l m],by simp,by simp;omega⟩,F.1,by dsimp only;omega,by dsimp only;simp only[Vx3,List.length_singleton];omega,F.2.1,?_⟩
    rw[F.2.2,ma,hr2,hall]
theorem ZoI{e:Nat}(h:0≤rgt ns e n b):(n=0∧leafQ ns n=false∧(forP ns e n).length=0)∨(n≠0∧leafQ ns n=true∧(forP ns e n).length=1)∨(n≠0∧leafQ ns n=false∧rgt ns e n b=2):=by
 by_cases hz:n=0
 ·subst hz;exact .inl ⟨rfl,by simp[leafQ],by rw[ZaU];rfl⟩
 ·cases hl:(ndAt ns n).leaf with
  |true=>exact .inr (.inl ⟨hz,by simp[leafQ,hz,hl],by rw[ZaT hz hl];rfl⟩)
  |false=>
   obtain⟨_,_,_,_,_,h5⟩:=Za2 hz hl h
   exact .inr (.inr ⟨hz,by simp[leafQ,hl],h5⟩)
theorem Zrk{l r:Int}{e:Nat}(ho:Ones ns)(he:e+1≤256)(hz:Zr (255-e) b)(l0:0≤l)(ln:l≤ns.length)(r0:0≤r)(rn:r≤ns.length)
  (hl:0≤rgt ns e l b) (hr:0≤rgt ns e r (turnD b (255-e))) (h1:1≤(forP ns e l).length+(forP ns e r).length) {os:List Nd} {N:Nat} (hos:∃ms,ns=os++ms∧ms.length≤N):
  (∃ ms,(joinN ns l r).1=os++ms∧ms.length≤N+1)∧Ones (joinN ns l r).1∧0≤(joinN ns l r).2∧(joinN ns l r).2≤(joinN ns l r).1.length∧0≤rgt (joinN ns l r).1 (e+1) (joinN ns l r).2 b∧forP (joinN ns l r).1 (e+1) (joinN ns l r).2=forP ns e l++forP ns e r:=by
 have hd:255-e<256:=by omega
 have z1:Zr (256-e) b:=by rw[show 256-e=255-e+1 by omega];exact Zeb hz
 have z2:Zr (256-e) (turnD b (255-e)):=by rw[show 256-e=255-e+1 by omega];exact Zec hz hd
 have q1:=Zk8 (by omega) z1 hl
 have q2:=Zk8 (by omega) z2 hr
 obtain⟨ms,rfl,hms⟩:=hos
 by_cases hs:singleQ (os++ms) l r=0
 ·have h2:2≤(forP (os++ms) e l).length+(forP (os++ms) e r).length:=by
   have k1:=ZoI hl
   have k2:=ZoI hr
   unfold singleQ at hs
   rcases k1 with ⟨a1,a2,a3⟩|⟨a1,a2,a3⟩|⟨a1,a2,a3⟩<;>rcases k2 with ⟨c1,c2,c3⟩|⟨c1,c2,c3⟩|⟨c1,c2,c3⟩<;>simp[a1,a2,c1,c2]at hs<;>omega
  have F:=ZkN (l:=l) (r:=r) ho he hz l0 ln r0 rn hl hr h2
  have hj:joinN (os++ms) l r=(os++ms++[forkN l r],((os++ms).length:Int)+1):=by unfold joinN;rw[if_pos hs]
  rw[hj]
  exact⟨⟨ms++[forkN l r],by simp,by simp;omega⟩,F.1,by dsimp only;omega,by dsimp only;simp only[Vx3,List.length_singleton];omega,F.2.1,F.2.2⟩
 ·have hj:joinN (os++ms) l r=(os++ms,singleQ (os++ms) l r):=by unfold joinN;rw[if_neg hs]
  rw[hj]
  dsimp only
  have up:∀(m:Int) (b':Dg),(∀ i,i<255-e→kb b'.1 i=kb b.1 i)→m≠0→(ndAt (os++ms) m).leaf=true→0≤rgt (os++ms) e m b'→0≤rgt (os++ms) (e+1) m b:=fun m b' hbb hm hlf h=>by
   rw[Zck hm hlf]at h ⊢
   split at h
   ·omega
   ·rename_i h3
    rw[if_neg]
    ·decide
    ·intro h4
     refine ZdX (a:=(ndAt (os++ms) m).k.1) (b:=b.1) (by omega) ?_
     rw[← hbb _ (by omega)]
     exact Zb5 (by omega)
  unfold singleQ at hs ⊢
  by_cases c1:(leafQ (os++ms) l&&decide (r=0))=true
  ·rw[if_pos c1]
   simp only[Bool.and_eq_true,decide_eq_true_eq]at c1
   obtain⟨c1,rfl⟩:=c1
   unfold leafQ at c1
   simp only[Bool.and_eq_true,decide_eq_true_eq]at c1
   exact⟨⟨ms,rfl,by omega⟩,ho,l0,ln,up l b (fun _ _=>rfl) c1.1 c1.2 hl,by rw[ZaT c1.1 c1.2,ZaT c1.1 c1.2,ZaU,List.append_nil]⟩
  ·rw[if_neg c1]at hs ⊢
   by_cases c2:(leafQ (os++ms) r&&decide (l=0))=true
   ·rw[if_pos c2]
    simp only[Bool.and_eq_true,decide_eq_true_eq]at c2
    obtain⟨c2,rfl⟩:=c2
    unfold leafQ at c2
    simp only[Bool.and_eq_true,decide_eq_true_eq]at c2
    exact⟨⟨ms,rfl,by omega⟩,ho,r0,rn,up r _ (fun i hi=>Zgy hd hi) c2.1 c2.2 hr,by rw[ZaT c2.1 c2.2,ZaT c2.1 c2.2,ZaU,List.nil_append]⟩
   ·rw[if_neg c2]at hs
    exact absurd rfl hs
structure DropOk (ns:List Nd) (e:Nat) (b:Dg) (ps:List Pr) (r:List Nd×Int):Prop where
 add:∃ms,r.1=ns++ms∧ms.length≤e
 ones:Ones r.1
 pos:0≤r.2
 le:r.2≤r.1.length
 right:0≤rgt r.1 e r.2 b
 all:forP r.1 e r.2=ps
theorem Zrl(ho:Ones ns):∀(e:Nat) (n:Int) (b:Dg),e≤256→0≤n→n≤ns.length→Zr (256-e) b→0≤rgt ns e n b→hasP (forP ns e n) k=true→
  DropOk ns e b (withoutP (forP ns e n) k) (dropN ns k e n):=by
 have leafC:∀(e:Nat) (n:Int) (b:Dg),n≠0→(ndAt ns n).leaf=true→hasP (forP ns e n) k=true→DropOk ns e b (withoutP (forP ns e n) k) (dropN ns k e n):=fun e n b hz hl hh=>by
  rw[Zov hl]
  rw[ZaT hz hl]at hh ⊢
  have hk:(ndAt ns n).k=k:=by simpa [hasP] using hh
  refine⟨⟨[],by simp,Nat.zero_le _⟩,ho,Int.le_refl _,by dsimp only;omega,by dsimp only;rw[ZdK];decide,?_⟩
  dsimp only
  rw[ZaU]
  simp[withoutP,hk]
 intro e
 induction e with
 |zero=>
  intro n b _ h0 hn hz hr hh
  by_cases h:n=0
  ·subst h;rw[ZaU]at hh;cases hh
  ·cases hl:(ndAt ns n).leaf with
   |false=>rw[ZcN h hl]at hr;omega
   |true=>exact leafC 0 n b h hl hh
 |succ e ih=>
  intro n b he h0 hn hz hr hh
  by_cases h:n=0
  ·subst h;rw[ZaU]at hh;cases hh
  ·cases hl:(ndAt ns n).leaf with
   |true=>exact leafC (e+1) n b h hl hh
   |false=>
    have hd:255-e<256:=by omega
    have hz':Zr (255-e) b:=by rw[show 255-e=256-(e+1) by omega];exact hz
    have hbit:=Zeu k.1 (255-e)
    obtain⟨k1,k2,_⟩:=ZgT ho (by omega) hn hl
    obtain⟨f,hf,rl,rr,r3,r4⟩:=Za2 h hl hr
    obtain rfl:e=f:=by omega
    have hlen:=(Zk8 he hz hr).2.2.1 r4
    have hfk:=ZbV (e:=e) h hl
    rw[hfk]at hlen hh ⊢
    rw[Zou hl]
    have z1:Zr (256-e) b:=by rw[show 256-e=255-e+1 by omega];exact Zeb hz'
    have z2:Zr (256-e) (turnD b (255-e)):=by rw[show 256-e=255-e+1 by omega];exact Zec hz' hd
    obtain⟨u1,s1,_,_,_,_⟩:=Zbz e (ndAt ns n).l b (by omega) z1 rl
    obtain⟨u2,s2,_,_,_,_⟩:=Zbz e (ndAt ns n).r (turnD b (255-e)) (by omega) z2 rr
    rw[show 256-e=255-e+1 by omega]at u1 u2
    generalize (ndAt ns n).l=l at *
    generalize (ndAt ns n).r=r at *
    have hS:=Zlj hd hz' s1 s2 u1 u2
    have hwl:=Ze3 hS hh
    rcases (show kb k.1 (255-e)=0∨kb k.1 (255-e)=1 by omega) with hb|hb
    ·rw[if_neg (by omega)]
     have hall:=ZsI (l:=forP ns e l) hd hz' u2 hb
     have hin:hasP (forP ns e l) k=true:=by
      obtain⟨p,hp,rfl⟩:=ZbC.1 hh
      rcases List.mem_append.1 hp with hp|hp
      ·exact ZbC.2 ⟨p,hp,rfl⟩
      ·have:=u2 p hp (255-e) (by omega)
       rw[ZcQ hz' hd,hb]at this
       cases this
     have I:=ih l b (by omega) k1.1 (by omega) z1 rl hin
     generalize dropN ns k e l=q at *
     obtain⟨ns2,m⟩:=q
     obtain⟨⟨ms,rfl,hms⟩,o2,m0,m1,mr,ma⟩:=I
     dsimp only at *
     have hr1:=Zjl (ms:=ms) ho e r (turnD b (255-e)) k2.1 (by omega)
     have hr2:=Zhd (ms:=ms) ho e r k2.1 (by omega)
     obtain⟨a1,a2,a3,a4,a5,a6⟩:=Zrk (l:=m) (r:=r) (os:=ns) (N:=e) o2 he hz' m0 m1 k2.1 (by rw[Vx3];omega) mr (by rw[hr1];exact rr) (by rw[ma,hr2,←Vx3,hall];omega) ⟨ms,rfl,hms⟩
     exact⟨a1,a2,a3,a4,a5,by rw[a6,ma,hr2,hall]⟩
    ·rw[if_pos hb]
     have hall:=Zql (r:=forP ns e r) hd hz' u1 hb
     have hin:hasP (forP ns e r) k=true:=by
      obtain⟨p,hp,rfl⟩:=ZbC.1 hh
      rcases List.mem_append.1 hp with hp|hp
      ·have:=u1 p hp (255-e) (by omega)
       rw[hz' _ (Vx8 _) hd,hb]at this
       cases this
      ·exact ZbC.2 ⟨p,hp,rfl⟩
     have I:=ih r (turnD b (255-e)) (by omega) k2.1 (by omega) z2 rr hin
     generalize dropN ns k e r=q at *
     obtain⟨ns2,m⟩:=q
     obtain⟨⟨ms,rfl,hms⟩,o2,m0,m1,mr,ma⟩:=I
     dsimp only at *
     have hr1:=Zjl (ms:=ms) ho e l b k1.1 (by omega)
     have hr2:=Zhd (ms:=ms) ho e l k1.1 (by omega)
     obtain⟨a1,a2,a3,a4,a5,a6⟩:=Zrk (l:=l) (r:=m) (os:=ns) (N:=e) o2 he hz' k1.1 (by rw[Vx3];omega) m0 m1 (by rw[hr1];exact rl) mr (by rw[ma,hr2,←Vx3,hall];omega) ⟨ms,rfl,hms⟩
     exact⟨a1,a2,a3,a4,a5,by rw[a6,ma,hr2,hall]⟩
end
end Go.Proofs.YtimaoonpgilekaaDoor
