import Derived.Test.YtimaoonpgilekaaDoorQuP
set_option linter.all false
namespace Go.Proofs.YtimaoonpgilekaaDoor
open Go.RowKit
set_option maxRecDepth 100000
def zDq:Dg:=⟨List.replicate 32 0,rfl⟩
def oneQ(n f:Nat):Tx:=signX ⟨zDq,zDq,n,0,f,zDq⟩
def lineQ:Ln:=⟨fromX ⟨zDq,zDq,0,0,0,zDq⟩,[oneQ 3 1,oneQ 4 1,oneQ 6 1]⟩
theorem Yp1{x y:Tx}(h:x.p=y.p):fromX x=fromX y:=by unfold fromX;congr 3;rw[h]
theorem Yp0{x y:Tx}(h:fromX x=fromX y):(sha256 (tagB 3 [x.p.1])).head? =(sha256 (tagB 3 [y.p.1])).head? :=congrArg (fun d:Dg=>d.1.head?) h
theorem Yp7{x:Tx}(h:x=signX x):(sha256 (tagB 4 [bodyX x])).head? =x.s.1.head? :=(congrArg (fun y:Tx=>y.s.1.head?) h).symm
theorem Yqi(n f:Nat):oneQ n f=signX (oneQ n f):=(ZoX _).symm
theorem Yqh(n f:Nat):fromX (oneQ n f)=lineQ.d:=Yp1 (show (oneQ n f).p=(⟨zDq,zDq,0,0,0,zDq⟩:Tx).p from rfl)
theorem Yn9(n f:Nat):ownX (oneQ n f) lineQ.d=true:=by
 unfold ownX
 rw[Bool.and_eq_true,decide_eq_true_eq,decide_eq_true_eq]
 exact⟨Yqi n f,Yqh n f⟩
theorem YnW:mayL lineQ=true:=by
 refine Yoq (by decide) (YnX.2 ?_) (fun x hx=>?_)
 ·show List.Pairwise (fun a b:Tx=>a.n<b.n) [oneQ 3 1,oneQ 4 1,oneQ 6 1]
  refine List.pairwise_cons.2 ⟨fun b hb=>?_,List.pairwise_cons.2 ⟨fun b hb=>?_,List.pairwise_singleton _ _⟩⟩
  ·rcases List.mem_cons.1 hb with rfl|hb
   ·show 3<4;decide
   ·rw[Vy4]at hb;subst hb;show 3<6;decide
  ·rw[Vy4]at hb;subst hb;show 4<6;decide
 ·have hx:x∈[oneQ 3 1,oneQ 4 1,oneQ 6 1]:=hx
  simp only[List.mem_cons,List.not_mem_nil,or_false]at hx
  rcases hx with rfl|rfl|rfl<;>exact Yn9 _ _
theorem Yn7(n:Nat):cntN lineQ.xs n=if n≤3 then 0 else if n≤4 then 1 else if n≤6 then 2 else 3:=by
 have e:lineQ.xs=[oneQ 3 1,oneQ 4 1,oneQ 6 1]:=rfl
 have e3:(oneQ 3 1).n=3:=rfl
 have e4:(oneQ 4 1).n=4:=rfl
 have e6:(oneQ 6 1).n=6:=rfl
 unfold cntN
 rw[e]
 simp only[List.takeWhile,e3,e4,e6]
 by_cases h1:3<n
 ·by_cases h2:4<n
  ·by_cases h3:6<n
   ·rw[if_neg (by omega),if_neg (by omega),if_neg (by omega)];simp[h1,h2,h3]
   ·rw[if_neg (by omega),if_neg (by omega),if_pos (by omega)];simp[h1,h2,h3]
  ·rw[if_neg (by omega),if_pos (by omega)];simp[h1,h2]
 ·rw[if_pos (by omega)];simp[h1]
theorem Yo0:readyL lineQ 3=[oneQ 3 1,oneQ 4 1]:=by
 unfold readyL
 rw[if_pos YnW,Yn7];rfl
theorem Yo1:readyL lineQ 5=[]:=by
 unfold readyL
 rw[if_pos YnW,Yn7];rfl
theorem Yo7:pastL lineQ 4=⟨lineQ.d,[oneQ 4 1,oneQ 6 1]⟩∧pastG lineQ 4=[oneQ 3 1]:=by
 unfold pastL pastG
 rw[if_pos YnW,if_pos YnW,Yn7];exact⟨rfl,rfl⟩
theorem YnY(n:Nat):hitX lineQ.xs n=if n=3 then some (oneQ 3 1) else if n=4 then some (oneQ 4 1) else if n=6 then some (oneQ 6 1) else none:=by
 have e:lineQ.xs=[oneQ 3 1,oneQ 4 1,oneQ 6 1]:=rfl
 have e3:(oneQ 3 1).n=3:=rfl
 have e4:(oneQ 4 1).n=4:=rfl
 have e6:(oneQ 6 1).n=6:=rfl
 unfold hitX
 rw[e]
 simp only[List.find?,e3,e4,e6]
 by_cases h1:n=3
 ·subst h1;rfl
 by_cases h2:n=4
 ·subst h2;rfl
 by_cases h3:n=6
 ·subst h3;rfl
 have g1:¬3=n:=fun h=>h1 h.symm
 have g2:¬4=n:=fun h=>h2 h.symm
 have g3:¬6=n:=fun h=>h3 h.symm
 simp[h1,h2,h3,g1,g2,g3]
theorem Yo8:pqE lineQ (oneQ 4 1)=190:=by
 unfold pqE
 rw[if_neg (by rw[YnW];simp),if_neg (by rw[Yn9];simp)]
 show (match hitX lineQ.xs 4 with
  |some y=>if (1:Nat)≤y.f then (190:Int) else 0
  |none=>if lineQ.xs.length=256 then 9 else 0)=_
 rw[YnY];rfl
theorem Yo9:pqE lineQ (oneQ 4 2)=0∧(pqL lineQ (oneQ 4 2)).xs=[oneQ 3 1,oneQ 4 2,oneQ 6 1]∧pqO lineQ (oneQ 4 2)=[oneQ 4 1]:=by
 have h:pqE lineQ (oneQ 4 2)=0:=by
  unfold pqE
  rw[if_neg (by rw[YnW];simp),if_neg (by rw[Yn9];simp)]
  show (match hitX lineQ.xs 4 with
   |some y=>if (2:Nat)≤y.f then (190:Int) else 0
   |none=>if lineQ.xs.length=256 then 9 else 0)=_
  rw[YnY];rfl
 refine⟨h,?_,?_⟩
 ·rw[(Yn0 h).1]
  show withL lineQ.xs (oneQ 4 2)=_
  rw[Yoc (Yn2 YnW).2.1]
  show lineQ.xs.take (cntN lineQ.xs 4)++oneQ 4 2::lineQ.xs.drop (cntN lineQ.xs 4+(if hasN lineQ.xs 4=true then 1 else 0))=_
  unfold hasN
  rw[Yn7,YnY];rfl
 ·rw[(Yn0 h).2]
  show (hitX lineQ.xs 4).toList=_
  rw[YnY];rfl
theorem YoH:pqE lineQ (oneQ 5 0)=0∧pqL lineQ (oneQ 5 0)=⟨lineQ.d,[oneQ 3 1,oneQ 4 1,oneQ 5 0,oneQ 6 1]⟩∧pqO lineQ (oneQ 5 0)=[]:=by
 have h:pqE lineQ (oneQ 5 0)=0:=by
  unfold pqE
  rw[if_neg (by rw[YnW];simp),if_neg (by rw[Yn9];simp)]
  show (match hitX lineQ.xs 5 with
   |some y=>if (0:Nat)≤y.f then (190:Int) else 0
   |none=>if lineQ.xs.length=256 then 9 else 0)=_
  rw[YnY];rfl
 refine⟨h,?_,?_⟩
 ·rw[(Yn0 h).1]
  show Ln.mk lineQ.d (withL lineQ.xs (oneQ 5 0))=_
  rw[Yoc (Yn2 YnW).2.1]
  show Ln.mk lineQ.d (lineQ.xs.take (cntN lineQ.xs 5)++oneQ 5 0::lineQ.xs.drop (cntN lineQ.xs 5+(if hasN lineQ.xs 5=true then 1 else 0)))=_
  unfold hasN
  rw[Yn7,YnY];rfl
 ·rw[(Yn0 h).2]
  show (hitX lineQ.xs 5).toList=_
  rw[YnY];rfl
theorem YoJ:readyL (pqL lineQ (oneQ 5 0)) 3=[oneQ 3 1,oneQ 4 1,oneQ 5 0,oneQ 6 1]:=by
 have hm:=(Yn6 YoH.1).2.2.2.2
 rw[YoH.2.1]at hm ⊢
 unfold readyL
 rw[if_pos hm]
 show runF (List.drop (cntN [oneQ 3 1,oneQ 4 1,oneQ 5 0,oneQ 6 1] 3) [oneQ 3 1,oneQ 4 1,oneQ 5 0,oneQ 6 1]) 3=_
 have e:cntN [oneQ 3 1,oneQ 4 1,oneQ 5 0,oneQ 6 1] 3=0:=Yog (Nat.zero_le _) (fun i hi=>absurd hi (by omega)) (fun h=>by show ¬3<3;decide)
 rw[e];rfl
def d1Q:Dg:=⟨1::List.replicate 31 0,rfl⟩
def farQ:Tx:=signX ⟨d1Q,zDq,0,0,0,zDq⟩
theorem Yox:ownX farQ lineQ.d=false:=by
 unfold ownX
 have h:¬fromX farQ=lineQ.d:=fun h=>by
  have h1:=Yp0 (x:=farQ) (y:=⟨zDq,zDq,0,0,0,zDq⟩) h
  have h2:(sha256 (tagB 3 [d1Q.1])).head? =(sha256 (tagB 3 [zDq.1])).head? :=h1
  exact absurd h2 (by decide +kernel)
 rw[Bool.and_eq_false_iff]
 exact .inr (Vy1 h)
theorem YoR:pqE lineQ farQ=2:=by
 unfold pqE
 rw[if_neg (by rw[YnW];simp),if_pos Yox]
theorem YoP:mayL ⟨zDq,[zX]⟩=false:=by
 cases h:mayL ⟨zDq,[zX]⟩
 ·rfl
 ·have h1:=(Yn2 h).2.2 zX (List.mem_singleton.2 rfl)
  unfold ownX at h1
  rw[Bool.and_eq_true,decide_eq_true_eq]at h1
  have h2:(sha256 (tagB 4 [bodyX zX])).head? =some 0:=Yp7 h1.1
  exact absurd h2 (by decide +kernel)
end Go.Proofs.YtimaoonpgilekaaDoor
