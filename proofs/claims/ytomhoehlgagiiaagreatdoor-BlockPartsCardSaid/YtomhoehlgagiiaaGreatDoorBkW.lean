import Derived.Test.YtomhoehlgagiiaaGreatDoorAcL
import Derived.Test.YtomhoehlgagiiaaGreatDoorAcK
import Derived.Test.YtomhoehlgagiiaaGreatDoorBkY
import Derived.Test.YtomhoehlgagiiaaGreatDoorBits
set_option maxRecDepth 100000
set_option linter.all false
namespace Go.Proofs.YtomhoehlgagiiaaGreatDoor
section
open Go.RowKit
theorem YdB:mayT ⟨[],0⟩=true:=by decide +kernel
theorem Zhi:allT ⟨[],0⟩=[]:=by decide +kernel
theorem Zev:mayA ⟨[],0⟩=true:=by unfold mayA;rw[YdB,Zhi];rfl
end
section
open Go.RowKit
def zBox:Dg:=⟨List.replicate 32 0,rfl⟩
def dFive:Dp:=⟨0,dfst 1,5⟩
theorem ZsO:mayH zH=true:=by decide
theorem Yfg:St []:=by
 have:=(Zcm Zev).2
 rw[Zhi]at this
 exact this
theorem Zf6(ds:List Dp)(hd:ds.length≤16):applyE ⟨[],0⟩ zH ds [] zBox=0:=by
 unfold applyE
 rw[if_pos Zev,if_pos ZsO,if_neg (by decide),if_neg (by rw[decide_eq_true_eq];omega),if_neg (by simp)]
 rfl
theorem Zz4:rootD []=noneR:=Subtype.ext (show sha256 (tagB 0 [])=sha256 [0] from congrArg sha256 rfl)
theorem Zz5:rootR []=noneR:=rfl
theorem YdI:applyH ⟨[],0⟩ zH [] [] zBox=⟨1,nameD zH,noneR,noneR,0⟩:=by
 rw[(Zbx (Zf6 [] (by simp))).2.2,Zhi]
 show headB zH [] []=_
 unfold headB
 rw[Zz4]
 show Hd.mk (zH.h+1) (nameD zH) noneR (rootR []) 0=_
 rw[Zz5]
 rfl
theorem YdL:applyR ⟨[],0⟩ zH [] [] zBox=[]:=by
 rw[(Zbx (Zf6 [] (by simp))).2.1]
 rfl
theorem ZmY:moreB [] (dfst 1) 5=true:=by
 unfold moreB
 rw[ZeX (by rfl)]
 rfl
theorem Zzm:applyR ⟨[],0⟩ zH [dFive] [] zBox=[⟨1,idD dFive,0⟩]:=by
 rw[(Zbx (Zf6 [dFive] (by simp))).2.1,Zhi]
 have e:giveC [] (dfst 1) 5=0:=by unfold giveC;rw[if_pos ZmY]
 show [(⟨1,idD dFive,giveC [] (dfst 1) 5⟩:Rc)]=_
 rw[e]
theorem Zzl:(applyH ⟨[],0⟩ zH [dFive] [] zBox).m=1:=by
 rw[(Zbx (Zf6 [dFive] (by simp))).2.2]
 rfl
theorem Yc1{o:Tr}(ho:ApplyOk ⟨[],0⟩ zH [dFive] [] zBox o):mayA o=true∧o.ns.length≤2000∧getA o (dfst 1)=⟨0,5⟩:=by
 obtain⟨h1,h2,h3,-⟩:=Zc4 (Zf6 [dFive] (by simp)) ho
 refine⟨h1,by simp at h3;omega,?_⟩
 rw[Zdv h1,h2,Zhi]
 have e:giveAll [] [dFive]=moreL [] (dfst 1) 5:=by
  show giveL [] (dfst 1) 5=_
  unfold giveL
  rw[if_pos ZmY]
 show inA (giveAll [] [dFive]) (dfst 1)=_
 rw[e,Zj0 Yfg ZmY,ZeX (by rfl)]
 rfl
end
end Go.Proofs.YtomhoehlgagiiaaGreatDoor
