import Derived.Test.YtimaoonpgilekaaDoorPureX
set_option linter.all false
namespace Go.Proofs.YtimaoonpgilekaaDoor
open Go.RowKit
structure Ln where
 d:Dg
 xs:List Tx
 deriving DecidableEq
def zL:Ln:=⟨⟨List.replicate 32 0,rfl⟩,[]⟩
def ownX(x:Tx)(d:Dg):Bool:=decide (x=signX x)&&decide (fromX x=d)
def soB(xs:List Tx):Bool:=decide (xs.Pairwise fun a b=>a.n<b.n)
def mayL(l:Ln):Bool:=decide (l.xs.length≤256)&&(soB l.xs&&l.xs.all fun x=>ownX x l.d)
def cntN(xs:List Tx)(n:Nat):Nat:=(xs.takeWhile fun y=>decide (y.n<n)).length
def hitX(xs:List Tx)(n:Nat):Option Tx:=xs.find? fun y=>decide (y.n=n)
def hasN(xs:List Tx)(n:Nat):Bool:=(hitX xs n).isSome
def withL(xs:List Tx)(x:Tx):List Tx:=xs.takeWhile (fun y=>decide (y.n<x.n))++x::xs.dropWhile (fun y=>decide (y.n≤x.n))
def pqE(l:Ln)(x:Tx):Int:=
 if mayL l=false then 8 else if ownX x l.d=false then 2 else match hitX l.xs x.n with
  |some y=>if x.f≤y.f then 190 else 0
  |none=>if l.xs.length=256 then 9 else 0
def pqL(l:Ln)(x:Tx):Ln:=if pqE l x=0 then ⟨l.d,withL l.xs x⟩ else zL
def pqO(l:Ln)(x:Tx):List Tx:=if pqE l x=0 then (hitX l.xs x.n).toList else []
def runF:List Tx→Nat→List Tx
 |[],_=>[]
 |y::r,n=>if y.n=n then y::runF r (n+1) else []
def readyL(l:Ln)(n:Nat):List Tx:=if mayL l=true then runF (l.xs.drop (cntN l.xs n)) n else []
def checkL(l:Ln):Int:=if mayL l=true then 0 else 8
def pastL(l:Ln)(n:Nat):Ln:=if mayL l=true then ⟨l.d,l.xs.drop (cntN l.xs n)⟩ else zL
def pastG(l:Ln)(n:Nat):List Tx:=if mayL l=true then l.xs.take (cntN l.xs n) else []
theorem Yom{p:Tx→Bool}{l:List Tx}{x:Tx}(h:x∈l.takeWhile p):p x=true:=List.all_eq_true.1 (List.all_takeWhile (p:=p) (l:=l)) x h
theorem YnX{xs:List Tx}:soB xs=true↔xs.Pairwise fun a b=>a.n<b.n:=by unfold soB;rw[decide_eq_true_eq]
theorem Yn8{xs:List Tx}(h:soB xs=true){i j:Nat}(hj:j<xs.length)(hij:i<j):(xs[i]'(Nat.lt_trans hij hj)).n<xs[j].n:=List.pairwise_iff_getElem.1 (YnX.1 h) i j (Nat.lt_trans hij hj) hj hij
theorem YoV{xs:List Tx}{j:Nat}(h:j+1<xs.length):soB (xs.take (j+2))=(soB (xs.take (j+1))&&decide ((xs[j]'(by omega)).n<xs[j+1].n)):=by
 rw[Vy5 h]
 apply Bool.eq_iff_iff.2
 rw[Bool.and_eq_true,YnX,YnX,decide_eq_true_eq,List.pairwise_append]
 constructor
 ·rintro ⟨h1,_,h3⟩
  refine⟨h1,h3 _ ?_ _ (by simp)⟩
  rw[Vy5 (by omega:j<xs.length)]
  exact List.mem_append.2 (.inr (List.mem_singleton.2 rfl))
 ·rintro ⟨h1,h2⟩
  refine⟨h1,List.pairwise_singleton _ _,fun a ha b hb=>?_⟩
  rw[Vy4]at hb;subst hb
  rw[Vy5 (by omega:j<xs.length)]at ha h1
  rcases List.mem_append.1 ha with ha|ha
  ·exact Nat.lt_trans ((List.pairwise_append.1 h1).2.2 a ha _ (by simp)) h2
  ·rw[Vy4]at ha;subst ha;exact h2
theorem Yo6{xs:List Tx}{k:Nat}(h:soB (xs.take k)=false):soB xs=false:=by
 cases h2:soB xs
 ·rfl
 ·rw[YnX]at h2
  have:=YnX.2 (h2.sublist (List.take_sublist k xs))
  rw[this]at h;cases h
theorem Yo5{xs:List Tx}(h:xs.length≤1):soB xs=true:=by
 rw[YnX]
 match xs,h with
 |[],_=>exact List.Pairwise.nil
 |[x],_=>exact List.pairwise_singleton _ _
 |_::_::_,h=>simp at h
theorem Ypi(xs:List Tx)(n:Nat):cntN xs n≤xs.length:=(List.takeWhile_sublist _).length_le
theorem Yn4(xs:List Tx)(n:Nat):xs.take (cntN xs n)=xs.takeWhile fun y=>decide (y.n<n):=by
 conv=>lhs;arg 2;rw[← List.takeWhile_append_dropWhile (p:=fun y=>decide (y.n<n)) (l:=xs)]
 exact List.take_left' rfl
theorem Yn3(xs:List Tx)(n:Nat):xs.drop (cntN xs n)=xs.dropWhile fun y=>decide (y.n<n):=by
 conv=>lhs;arg 2;rw[← List.takeWhile_append_dropWhile (p:=fun y=>decide (y.n<n)) (l:=xs)]
 exact List.drop_left' rfl
theorem Yog{xs:List Tx}{n k:Nat}(hk:k≤xs.length)(h1:∀i (hi:i<k),(xs[i]'(by omega)).n<n)(h2:∀(h:k<xs.length),¬xs[k].n<n):cntN xs n=k:=by
 unfold cntN
 induction xs generalizing k with
 |nil=>simp at hk ⊢;omega
 |cons y r ih=>
  rcases k with _|k
  ·have:=h2 (by simp)
   simp only[List.getElem_cons_zero]at this
   rw[List.takeWhile_cons_of_neg (by simpa using this)];rfl
  ·have h0:=h1 0 (by omega)
   simp only[List.getElem_cons_zero]at h0
   rw[List.takeWhile_cons_of_pos (by simpa using h0),List.length_cons]
   congr 1
   refine ih (by simpa using hk) (fun i hi=>?_) (fun h=>?_)
   ·have:=h1 (i+1) (by omega)
    simpa using this
   ·have:=h2 (by simpa using h)
    simpa using this
theorem cnt_lt{xs:List Tx}{n i:Nat}(hi:i<cntN xs n):(xs[i]'(Vx4 hi (Ypi xs n))).n<n:=by
 have h1:(xs.take (cntN xs n))[i]'(by rw[List.length_take];have:=Ypi xs n;omega)∈xs.takeWhile fun y=>decide (y.n<n):=by rw[← Yn4];exact List.getElem_mem _
 rw[List.getElem_take]at h1
 have:=Yom h1
 simpa using this
theorem Yok{xs:List Tx}{n:Nat}(h:cntN xs n<xs.length):n≤xs[cntN xs n].n:=by
 have hd:xs.drop (cntN xs n)≠[]:=by intro e;have:=congrArg List.length e;rw[List.length_drop]at this;simp at this;omega
 have h1:=List.head?_dropWhile_not (fun y:Tx=>decide (y.n<n)) xs
 rw[← Yn3,List.head?_drop,Vx9 h]at h1
 simp at h1
 exact h1
theorem Yod{xs:List Tx}(hs:soB xs=true){n i:Nat}(h:i<xs.length)(hi:cntN xs n≤i):n≤xs[i].n:=by
 have h0:=Yok (xs:=xs) (n:=n) (by omega)
 rcases Nat.lt_or_ge (cntN xs n) i with h1|h1
 ·have:=Yn8 hs h h1;omega
 ·have e:cntN xs n=i:=by omega
  simp only[e]at h0
  exact h0
theorem Yol{xs:List Tx}(hs:soB xs=true)(n:Nat):hitX xs n=if h:cntN xs n<xs.length then (if xs[cntN xs n].n=n then some xs[cntN xs n] else none) else none:=by
 unfold hitX
 have hlo:∀y∈xs.take (cntN xs n),¬(decide (y.n=n)=true):=fun y hy=>by
  rw[Yn4]at hy
  have:=Yom hy
  simp at this ⊢;omega
 conv=>lhs;rw[← List.take_append_drop (cntN xs n) xs]
 rw[List.find?_append,List.find?_eq_none.2 hlo,Option.none_or]
 split
 ·rename_i h
  rw[List.drop_eq_getElem_cons h,List.find?_cons]
  split
  ·rename_i h3
   rw[if_pos (by simpa using h3)]
  ·rename_i h3
   rw[if_neg (by simpa using h3),List.find?_eq_none]
   intro y hy
   obtain⟨i,hi,rfl⟩:=List.mem_iff_getElem.1 hy
   rw[List.getElem_drop]
   rw[List.length_drop]at hi
   have h4:=Yn8 hs (i:=cntN xs n) (j:=cntN xs n+1+i) (by omega) (by omega)
   have h5:=Yok h
   simp;omega
 ·rename_i h
  rw[List.drop_eq_nil_of_le (by omega)];rfl
theorem Yqs{xs:List Tx}(hs:soB xs=true){n i:Nat}(h:i<xs.length):xs[i].n<n↔i<cntN xs n:=by
 constructor
 ·intro h1
  rcases Nat.lt_or_ge i (cntN xs n) with h2|h2
  ·exact h2
  ·have:=Yod hs h h2;omega
 ·intro h1;exact cnt_lt h1
theorem Yqv{xs:List Tx}(hs:soB xs=true){n:Nat}(h:cntN xs n<xs.length):hasN xs n=decide (xs[cntN xs n].n=n):=by
 unfold hasN
 rw[Yol hs,dif_pos h]
 by_cases h2:xs[cntN xs n].n=n
 ·rw[if_pos h2,Vy2 h2];rfl
 ·rw[if_neg h2,Vy1 h2];rfl
theorem Yqu{xs:List Tx}(hs:soB xs=true){n:Nat}(h:¬cntN xs n<xs.length):hasN xs n=false:=by
 unfold hasN
 rw[Yol hs,dif_neg h];rfl
theorem Yor{xs:List Tx}(hs:soB xs=true)(n:Nat):xs.dropWhile (fun y=>decide (y.n≤n))=xs.drop (cntN xs n+(if hasN xs n=true then 1 else 0)):=by
 have h1:xs.dropWhile (fun y=>decide (y.n≤n))=xs.drop (cntN xs (n+1)):=by
  rw[Yn3];congr 1;funext y;congr 1;simp only[Nat.lt_succ_iff]
 rw[h1]
 congr 1
 unfold hasN
 rw[Yol hs]
 have hc:=Ypi xs n
 by_cases h:cntN xs n<xs.length
 ·rw[dif_pos h]
  by_cases h2:xs[cntN xs n].n=n
  ·rw[if_pos h2]
   refine Yog (by simp;omega) (fun i hi=>?_) (fun hk=>?_)
   ·simp at hi
    rcases Nat.lt_or_ge i (cntN xs n) with h3|h3
    ·have:=cnt_lt h3;omega
    ·have e:i=cntN xs n:=by omega
     subst e;omega
   ·simp only[Option.isSome_some,if_true]at hk ⊢
    have:=Yn8 hs hk (Nat.lt_succ_self _);omega
  ·rw[if_neg h2]
   simp only[Option.isSome_none,Bool.false_eq_true,if_false,Nat.add_zero]
   have h5:=Yok h
   exact Yog hc (fun i hi=>by have:=cnt_lt hi;omega) (fun hk=>by omega)
 ·rw[dif_neg h]
  simp only[Option.isSome_none,Bool.false_eq_true,if_false,Nat.add_zero]
  exact Yog hc (fun i hi=>by have:=cnt_lt hi;omega) (fun hk=>absurd hk h)
theorem Yoc{xs:List Tx}(hs:soB xs=true)(x:Tx):withL xs x=xs.take (cntN xs x.n)++x::xs.drop (cntN xs x.n+(if hasN xs x.n=true then 1 else 0)):=by
 unfold withL
 rw[Yn4,Yor hs]
theorem Yoy{xs:List Tx}(hs:soB xs=true){n:Nat}(h:hasN xs n=true):cntN xs n<xs.length:=by
 unfold hasN at h
 rw[Yol hs]at h
 by_cases h2:cntN xs n<xs.length
 ·exact h2
 ·rw[dif_neg h2]at h;cases h
theorem Yot{xs:List Tx}(hs:soB xs=true)(x:Tx):(withL xs x).length=xs.length+(if hasN xs x.n=true then 0 else 1):=by
 rw[Yoc hs]
 have:=Ypi xs x.n
 simp only[Vx3,List.length_cons,List.length_take,List.length_drop]
 split
 ·rename_i h
  have:=Yoy hs h
  omega
 ·omega
theorem Yoh{xs:List Tx}{x y:Tx}(h:y∈withL xs x):y=x∨y∈xs:=by
 unfold withL at h
 rcases List.mem_append.1 h with h|h
 ·exact .inr ((List.takeWhile_sublist _).subset h)
 ·rcases List.mem_cons.1 h with h|h
  ·exact .inl h
  ·exact .inr ((List.dropWhile_sublist _).subset h)
theorem Yn5{xs:List Tx}(hs:soB xs=true){n:Nat}{y:Tx}(h:y∈xs.dropWhile (fun y=>decide (y.n≤n))):n<y.n:=by
 have h1:xs.dropWhile (fun y=>decide (y.n≤n))=xs.drop (cntN xs (n+1)):=by
  rw[Yn3];congr 1;funext y;congr 1;simp only[Nat.lt_succ_iff]
 rw[h1]at h
 obtain⟨i,hi,rfl⟩:=List.mem_iff_getElem.1 h
 rw[List.length_drop]at hi
 rw[List.getElem_drop]
 exact Yod hs (n:=n+1) (by omega) (by omega)
theorem Yof{xs:List Tx}(hs:soB xs=true)(x:Tx):soB (withL xs x)=true:=by
 rw[YnX]
 unfold withL
 have h0:=YnX.1 hs
 refine List.pairwise_append.2 ⟨h0.sublist (List.takeWhile_sublist _),List.pairwise_cons.2 ⟨fun y hy=>Yn5 hs hy,h0.sublist (List.dropWhile_sublist _)⟩,fun a ha b hb=>?_⟩
 have h1:=Yom ha
 simp at h1
 rcases List.mem_cons.1 hb with rfl|hb
 ·exact h1
 ·exact Nat.lt_trans h1 (Yn5 hs hb)
theorem Yn2{l:Ln}(h:mayL l=true):l.xs.length≤256∧soB l.xs=true∧∀x∈l.xs,ownX x l.d=true:=by
 unfold mayL at h
 rw[Bool.and_eq_true,Bool.and_eq_true,decide_eq_true_eq,List.all_eq_true]at h
 exact⟨h.1,h.2.1,h.2.2⟩
theorem Yoq{l:Ln}(h:l.xs.length≤256)(h2:soB l.xs=true)(h3:∀x∈l.xs,ownX x l.d=true):mayL l=true:=by
 unfold mayL
 rw[Bool.and_eq_true,Bool.and_eq_true,decide_eq_true_eq,List.all_eq_true]
 exact⟨h,h2,h3⟩
theorem Yn6{l:Ln}{x:Tx}(h:pqE l x=0):mayL l=true∧ownX x l.d=true∧(∀ y,hitX l.xs x.n=some y→y.f<x.f)∧(hitX l.xs x.n=none→l.xs.length<256)∧mayL (pqL l x)=true:=by
 have h0:=h
 unfold pqE at h
 cases h1:mayL l
 ·rw[if_pos h1]at h;cases h
 rw[if_neg (by rw[h1];simp)]at h
 cases h2:ownX x l.d
 ·rw[if_pos h2]at h;cases h
 rw[if_neg (by rw[h2];simp)]at h
 obtain⟨h3,h4,h5⟩:=Yn2 h1
 have hA:(∀ y,hitX l.xs x.n=some y→y.f<x.f)∧(hitX l.xs x.n=none→l.xs.length<256):=by
  constructor
  ·intro y hy
   rw[hy]at h
   dsimp only at h
   by_cases h6:x.f≤y.f
   ·rw[if_pos h6]at h;cases h
   ·omega
  ·intro hy
   rw[hy]at h
   dsimp only at h
   by_cases h6:l.xs.length=256
   ·rw[if_pos h6]at h;cases h
   ·omega
 refine⟨rfl,rfl,hA.1,hA.2,?_⟩
 unfold pqL
 rw[if_pos h0]
 refine Yoq ?_ (Yof h4 x) (fun y hy=>?_)
 ·show (withL l.xs x).length≤256
  rw[Yot h4]
  cases h7:hasN l.xs x.n
  ·have:hitX l.xs x.n=none:=by
    unfold hasN at h7
    cases h8:hitX l.xs x.n
    ·rfl
    ·rw[h8]at h7;cases h7
   have:=hA.2 this
   simp;omega
  ·simp;omega
 ·rcases Yoh hy with rfl|hy
  ·exact h2
  ·exact h5 y hy
theorem Yo4{h:List Tx}{n j:Nat}(hj:j≤h.length)(h1:∀i (hi:i<j),(h[i]'(by omega)).n=n+i)(h2:∀(hk:j<h.length),h[j].n≠n+j):runF h n=h.take j:=by
 induction h generalizing n j with
 |nil=>simp[runF]
 |cons y r ih=>
  rcases j with _|j
  ·have:=h2 (by simp)
   simp only[List.getElem_cons_zero,Nat.add_zero]at this
   simp[runF,this]
  ·have h0:=h1 0 (by omega)
   simp only[List.getElem_cons_zero,Nat.add_zero]at h0
   rw[List.take_succ_cons]
   unfold runF
   rw[if_pos h0]
   congr 1
   refine ih (by simpa using hj) (fun i hi=>?_) (fun hk=>?_)
   ·have:=h1 (i+1) (by omega)
    simp only[List.getElem_cons_succ]at this;omega
   ·have:=h2 (by simpa using hk)
    simp only[List.getElem_cons_succ]at this;omega
theorem Yob(h:List Tx)(n:Nat):∃j,j≤h.length∧runF h n=h.take j∧(∀ i (hi:i<h.length),i<j→h[i].n=n+i)∧(∀ (hk:j<h.length),h[j].n≠n+j):=by
 induction h generalizing n with
 |nil=>exact⟨0,Vx8 _,rfl,fun i hi=>by simp at hi,fun hk=>by simp at hk⟩
 |cons y r ih=>
  by_cases h0:y.n=n
  ·obtain⟨j,e1,e2,e3,e4⟩:=ih (n+1)
   refine⟨j+1,by simpa using e1,?_,fun i hi hij=>?_,fun hk=>?_⟩
   ·unfold runF
    rw[if_pos h0,e2,List.take_succ_cons]
   ·rcases i with _|i
    ·simpa using h0
    ·have:=e3 i (by simpa using hi) (by omega)
     simp only[List.getElem_cons_succ];omega
   ·have:=e4 (by simpa using hk)
    simp only[List.getElem_cons_succ];omega
  ·refine⟨0,by simp,?_,fun i _ hi=>absurd hi (by omega),fun hk=>by simpa using h0⟩
   unfold runF
   rw[if_neg h0];rfl
theorem Yo3(h:List Tx)(n:Nat):(runF h n).length≤h.length:=by
 obtain⟨j,e1,e2,_⟩:=Yob h n
 rw[e2,List.length_take];omega
theorem YoB{xs:List Tx}(hs:soB xs=true)(k:Nat):soB (xs.drop k)=true:=YnX.2 ((YnX.1 hs).sublist (List.drop_sublist k xs))
theorem YoI{l:Ln}{x:Tx}(h:pqE l x≠0):pqL l x=zL∧pqO l x=[]:=by
 unfold pqL pqO
 rw[if_neg h,if_neg h];exact⟨rfl,rfl⟩
theorem Yn0{l:Ln}{x:Tx}(h:pqE l x=0):pqL l x=⟨l.d,withL l.xs x⟩∧pqO l x=(hitX l.xs x.n).toList:=by
 unfold pqL pqO
 rw[if_pos h,if_pos h];exact⟨rfl,rfl⟩
end Go.Proofs.YtimaoonpgilekaaDoor
