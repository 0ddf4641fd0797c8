import Derived.Test.YtomhoehlgagiiaaGreatDoorBkL
import Derived.Test.YtomhoehlgagiiaaGreatDoorBkW
import Derived.Test.YtomhoehlgagiiaaGreatDoorHdL
import Derived.Test.YtomhoehlgagiiaaGreatDoorRpL
import Derived.Test.YtomhoehlgagiiaaGreatDoorTagX
import Derived.Test.YtomhoehlgagiiaaGreatDoorRf16
import Derived.Test.YtomhoehlgagiiaaGreatDoorBits
set_option linter.all false
namespace Go.Proofs.YtomhoehlgagiiaaGreatDoor
open Go.RowKit
set_option maxRecDepth 100000
theorem Zu1(p s r:Dg):(⟨1,p,s,r,0⟩:Hd).ok:=⟨by show (-9223372036854775808:Int)≤1∧(1:Int)≤9223372036854775807;decide,by show (-9223372036854775808:Int)≤0∧(0:Int)≤9223372036854775807;decide⟩
theorem YaD:Places Tryz.prog 28 (.agg zHdC) [(0,1),(1,32),(33,32),(65,32),(97,1)]:=by unfold Places;kernel_rfl
theorem ZyE(p s r:Dg):Tryz.prog.built 28 [(0,.int .i64 1),(1,.agg (p.1.map bv).toArray),(2,.agg (s.1.map bv).toArray),(3,.agg (r.1.map bv).toArray)]=some (hdC ⟨1,p,s,r,0⟩).toArray:=by
 have lz:∀d:Dg,(d.1.map bv).length=32:=ZbO
 have hb:(Value.int .i64 1).cells=#[.int .i64 1]:=rfl
 have ha:∀d:Dg,(Value.agg (d.1.map bv).toArray).cells=(d.1.map bv).toArray:=fun _=>rfl
 have hL:(Value.agg zHdC).cells=([]++([[Value.int .i64 0],z0.1.map bv,z0.1.map bv,z0.1.map bv].flatten++[Value.int .i64 0])).toArray:=by
  show zHdC=_
  simp[zHdC,hdC,hdS,zH,z0]
 have h:=ZmW (place:=fun i=>([(0,1),(1,32),(33,32),(65,32),(97,1)]:List (Nat×Nat)).toArray[i]?) [.int .i64 0] [[.int .i64 0],z0.1.map bv,z0.1.map bv,z0.1.map bv] [.int .i64 1,.agg (p.1.map bv).toArray,.agg (s.1.map bv).toArray,.agg (r.1.map bv).toArray] 0 [] ⟨rfl,rfl,by simp[lz],by simp[lz,ha],by simp[lz],by simp[lz,ha],by simp[lz],by simp[lz,ha],trivial⟩
 rw[Za5 YaD,hL]
 refine Eq.trans h ?_
 simp[hdC,hdS,hb,ha]
set_option maxHeartbeats 16000000 in
theorem Zg9(w:World)(hT:Tab w):Calls Tryz.prog 15 #[] w fun e w'=>e=.returned (.bool true)∧Below w.heap.size w w':=by
 have hut:=Tryz.underlying24
 have hu:=Tryz.underlying26
 have hua:=Tryz.underlying118
 have huh:=Tryz.underlying28
 have hud:=Tryz.underlying70
 have hur:=Tryz.underlying61
 have H0:=hid hT
 have hlow:=hid hT.low
 have W0:=hid (Below.refl w.heap.size w)
 have e0:hdE zH=0:=by unfold hdE;rw[if_pos ZsO]
 have e1:hashH zH=nameD zH:=by unfold hashH;rw[if_pos ZsO]
 have hHs:=fun W hT=>ZfR zH Zgg W hT
 rw[e0,e1]at hHs
 have hA1:=hid (fun W hT=>Zd6 (fun _=>False) (fun _=>False) (fun _=>False) none 0 [] 0 zH none 0 [] none 0 [] zBox W Zgg (Row.nil _ _ _) (by simp) (Row.nil _ _ _) (Row.nil _ _ _) (by simp) (by simp) hT 0 ⟨1,nameD zH,noneR,noneR,0⟩ [] (fun _=>True) (Zf6 [] (by simp)) YdI YdL (fun _ _=>trivial))
 have hA2:=hid (fun D W (hD:Row (fun _=>True) W D [dFive]) hT=>Zd6 (fun _=>False) (fun _=>True) (fun _=>False) none 0 [] 0 zH D 1 [dFive] none 0 [] zBox W Zgg (Row.nil _ _ _) (by simp) hD (Row.nil _ _ _) (by simp) (by simp) hT 0 (applyH ⟨[],0⟩ zH [dFive] [] zBox) [⟨1,idD dFive,0⟩] (fun o=>mayA o=true∧o.ns.length≤2000∧getA o (dfst 1)=⟨0,5⟩) (Zf6 [dFive] (by simp)) rfl Zzm (fun o ho=>Yc1 ho))
 have h2m:=Zzl
 obtain⟨hh,hhh⟩:∃y,applyH ⟨[],0⟩ zH [dFive] [] zBox=y:=⟨_,rfl⟩
 rw[hhh]at hA2 h2m
 replace h2m:=hid h2m
 clear hhh
 have hNo:=hid (show ∀W,Tab W→Calls Tryz.prog 65 #[] W fun e w'=>e=.returned (.agg (noneR.1.map bv).toArray)∧Below W.heap.size W w' from fun W hT=>ZdS W hT)
 have hDp:=hid (fun W hT=>ZeV dFive ⟨by decide,by decide⟩ W hT)
 have hGo:=hid (fun (o:Tr) (F:Nat→Prop) (A:Option Addr) (c:Nat) (W:World) (hW:Row F W A o.ns) (h1:mayA o=true) (h2:o.ns.length≤2000) (h3:getA o (dfst 1)=⟨0,5⟩)=>(show Calls Tryz.prog 64 #[.agg #[.slice A o.ns.length c,.int .i64 o.root],.agg ((dfst 1).1.map bv).toArray] W fun e w'=>e=.returned (.tuple #[.agg (acC ⟨0,5⟩).toArray,.int .i64 0])∧Below W.heap.size W w' from by have:=ZcG F A c o.ns o.root (dfst 1) W hW (by omega);rw[h1,if_pos rfl,h3]at this;exact this))
 have b1:=hid (show Tryz.prog.built 26 [(0,.int .u8 1)]=some ((dfst 1).1.map bv).toArray from Za6 1)
 have b0:=hid (show Tryz.prog.built 26 []=some (zBox.1.map bv).toArray by kernel_rfl)
 have bT:=hid (show Tryz.prog.built 24 []=some zTrC by kernel_rfl)
 have bH:=hid (show Tryz.prog.built 28 []=some (hdC zH).toArray from Zcc)
 have bB:=hid ZmQ
 have bD:=hid (show Tryz.prog.built 70 [(1,.agg ((dfst 1).1.map bv).toArray),(2,.int .u64 5)]=some (dpC dFive).toArray from Zwo (dfst 1) 5)
 have bN:=hid (ZyE (nameD zH) noneR noneR)
 have bR:=hid (Zwr 1 (idD dFive))
 have bA:=hid (show Tryz.prog.built 118 [(1,.int .u64 5)]=some (acC ⟨0,5⟩).toArray by kernel_rfl)
 have hEh:∀W,(Op.equalIn 10000 28 (.agg (hdC ⟨1,nameD zH,noneR,noneR,0⟩).toArray) (.agg (hdC ⟨1,nameD zH,noneR,noneR,0⟩).toArray)).run Tryz.prog W=.ok true W:=fun W=>ZhR _ _ (Zu1 _ _ _) (Zu1 _ _ _) true (decide_eq_true rfl) W
 have hEr:∀W,(Op.equalIn 10000 61 (.agg (rcC ⟨1,idD dFive,0⟩).toArray) (.agg (rcC ⟨1,idD dFive,0⟩).toArray)).run Tryz.prog W=.ok true W:=fun W=>ZkL _ _ ⟨by decide,by decide⟩ ⟨by decide,by decide⟩ true (decide_eq_true rfl) W
 have hEa:∀W,(Op.equalIn 10000 118 (.agg (acC ⟨0,5⟩).toArray) (.agg (acC ⟨0,5⟩).toArray)).run Tryz.prog W=.ok true W:=fun W=>ZgB _ _ ⟨by decide,by decide⟩ ⟨by decide,by decide⟩ true (decide_eq_true rfl) W
 have jdf:=hid (Zia dFive)
 have adf:=hid (Ybj dFive)
 have zdf:=hid (YbY dFive)
 have ndf:=hid (Yad dFive)
 have jrc:=hid (ZdM ⟨1,idD dFive,0⟩)
 have ldp:=hid (show dFive.ok from ⟨by decide,by decide⟩)
 obtain⟨cdf,hcdf⟩:∃c,dpC dFive=c:=⟨_,rfl⟩
 rw[hcdf]at hDp bD jdf adf zdf ndf
 replace hcdf:=hid hcdf.symm
 have nh1:=hid (ZbM ((⟨1,nameD zH,noneR,noneR,0⟩:Hd)))
 have jh1:=hid (Zbu ((⟨1,nameD zH,noneR,noneR,0⟩:Hd)))
 have ah1:=hid (Zbg ((⟨1,nameD zH,noneR,noneR,0⟩:Hd)))
 have zh1:=hid (Zbw ((⟨1,nameD zH,noneR,noneR,0⟩:Hd)))
 obtain⟨h1,hh1⟩:∃y,(⟨1,nameD zH,noneR,noneR,0⟩:Hd)=y:=⟨_,rfl⟩
 rw[hh1]at nh1 jh1 ah1 zh1
 have nhh:=hid (ZbM (hh))
 have jhh:=hid (Zbu (hh))
 have ahh:=hid (Zbg (hh))
 have zhh:=hid (Zbw (hh))
 rw[hh1]at hA1 bN hEh
 clear hh1
 obtain⟨rc,hrc⟩:∃r:Rc,(⟨1,idD dFive,0⟩:Rc)=r:=⟨_,rfl⟩
 rw[hrc]at hA2 bR hEr jrc
 obtain⟨a5,ha5⟩:∃a:Ac,(⟨0,5⟩:Ac)=a:=⟨_,rfl⟩
 rw[ha5]at hGo bA hEa hA2
 have nid:=hid (Zaz (idD dFive))
 have na5:=hid (ZbW a5)
 have ja5:=hid (show (Tryz.prog.info? 118).map (·.size)=some (acC a5).length from ZaM)
 have hiM:=hid (Zaz (nameD zH))
 replace hHs:=hid hHs
 clear hT e0 e1 hrc ha5
 generalize nameD zH=nm at *
 generalize idD dFive=idf at *
 generalize (dfst 1).1.map bv=d1 at *
 generalize zBox.1.map bv=dz at *
 generalize hdC zH=chz at *
 go_enter Tryz.func15,Tryz.ntmps15
 go_wp2_with (first
  |((with_reducible refine Zaf rfl 28 _ rfl chz.toArray [] ?_ ?_ ?_);exact bH.out;rfl))
 refine(hHs.out _ H0.out).mono ?_
 rintro e w1 ⟨rfl,hb⟩
 have H1:=hid (H0.out.bel hb (Nat.lt_of_lt_of_le hlow.out W0.out.size))
 have W1:=hid (W0.out.trans (hb.mono W0.out.size))
 clear H0 W0
 clear hb 
 have e1:=hid (heap_alloc_new w1 (.cells z32 26))
 go_wp2_with (first
  |(with_reducible refine Zac rfl 26 rfl z32 Zam ?_)
  |((with_reducible refine wpList_store_row rfl 26 (.tmp 1) (.tmp 18) rfl _ _ rfl rfl 26 z32 ?_ ?_ ?_ ?_ ?_);exact e1.out;exact ZdN nm;exact zDg nm;exact Zji nm;intro w2 hgS hbS hsS;have X2:=hid (Zan rfl hbS);have D2:=hid (Zae (l:=nm.1.map bv) hgS);clear hgS hbS hsS;have H2:=hid (H1.out.bel X2.out (Nat.lt_of_lt_of_le hlow.out W1.out.size));have W2:=hid (W1.out.trans (X2.out.mono W1.out.size));clear H1 W1)
  |((with_reducible refine Zaf rfl 24 _ rfl zTrC [] ?_ ?_ ?_);exact bT.out;rfl)
  |((with_reducible refine Zaf rfl 28 _ rfl chz.toArray [] ?_ ?_ ?_);exact bH.out;rfl)
  |((with_reducible refine Zaf rfl 36 _ rfl #[.slice none 0 0,.slice none 0 0] [] ?_ ?_ ?_);exact bB.out;rfl)
  |((with_reducible refine Zaf rfl 26 _ rfl dz.toArray [] ?_ ?_ ?_);exact b0.out;rfl))
 refine(hA1.out _ H2.out).mono ?_
 rintro e w3 ⟨⟨na3,ra3⟩,ad3,cd3,Rr3,rq3,rfl,ho,hq,hb,hok3⟩
 dsimp only at ho hok3 ⊢
 have H3:=hid (H2.out.bel hb (Nat.lt_of_lt_of_le hlow.out W2.out.size))
 have W3:=hid (W2.out.trans (hb.mono W2.out.size))
 have D3:=hid (Zab hb D2.out)
 clear H2 W2 D2
 have E3:=hid (OwnR.row ho)
 have Y3:=hid (OwnR.row hq)
 replace hok3:=hid hok3
 clear hb ho hq hA1
 have ea3:=hid (((Zad (w3.alloc (.cells zTrC 24)) (.cells zHdC 28)).block _ (by rw[World.size_alloc];exact Nat.lt_succ_self _)).trans (heap_alloc_new w3 (.cells zTrC 24)))
 have eb3:=heap_alloc_new (w3.alloc (.cells zTrC 24)) (.cells zHdC 28)
 rw[World.size_alloc]at eb3
 replace eb3:=hid eb3
 have hW3:=hid (Zag (Zad w3 (.cells zTrC 24)) (Zad (w3.alloc (.cells zTrC 24)) (.cells zHdC 28)))
 have hiF:=hid (show (Tryz.prog.info? 24).map (·.size)=some ([Value.slice ad3 na3.length cd3,.int .i64 ra3]).length from Zah)
 go_wp2_with (first
  |(with_reducible refine Zac rfl 24 rfl zTrC Zas ?_)
  |(with_reducible refine Zac rfl 28 rfl zHdC Za9 ?_)
  |((with_reducible refine wpList_store_row rfl 24 (.tmp 3) (.tmp 26) rfl _ _ rfl rfl 24 zTrC ?_ ?_ ?_ ?_ ?_);exact ea3.out;exact Zah;rfl;exact Zat ad3 na3.length cd3 ra3;intro w4a g1 b1 s1;refine wpList_store_row rfl 28 (.tmp 4) (.tmp 27) rfl (w3.heap.size+1) _ ?_ rfl 28 zHdC ?_ ?_ ?_ ?_ ?_;(first|rfl|(simp only[World.size_alloc];rfl));exact(b1.block _ (block_lt eb3.out) (by simp)).trans eb3.out;exact ah1.out;exact zh1.out;exact nh1.out;intro w4 g2 b2 s2;have X4a:=hW3.out.grown b1 hW3.out.size (fun k e=>by injection e with e;omega);have X4:=hid (X4a.grown b2 X4a.size (fun k e=>by injection e with e;omega));have F4:=hid (BoxT.of (Zae (l:=[Value.slice ad3 na3.length cd3,.int .i64 ra3]) ((b2.block _ (block_lt g1) (by simp)).trans g1)));have G4:=hid (Zae (l:=hdC h1) g2);clear g1 b1 s1 g2 b2 s2 X4a ea3 eb3 hW3;have H4:=hid (H3.out.bel X4.out (Nat.lt_of_lt_of_le hlow.out W3.out.size));have W4:=hid (W3.out.trans (X4.out.mono W3.out.size));have D4:=hid (Zab X4.out D3.out);have E4:=hid (E3.out.bel X4.out);have Y4:=hid (Y3.out.bel X4.out);clear H3 W3 D3 E3 Y3)
  |((with_reducible refine Zaf rfl 26 _ rfl d1.toArray [(0,.int .u8 1)] ?_ ?_ ?_);exact b1.out;rfl;try simp only[sQ])
  |((with_reducible refine Zaf rfl 70 _ rfl cdf.toArray [(1,.agg d1.toArray),(2,.int .u64 5)] ?_ ?_ ?_);exact bD.out;rfl;try simp only[sQ])
  |(with_reducible refine Zac rfl 70 rfl zDpC YbV ?_)
  |((with_reducible refine wpList_store_row rfl 70 (.tmp 7) (.tmp 31) rfl w4.heap.size _ rfl rfl 70 zDpC ?_ ?_ ?_ ?_ ?_);exact heap_alloc_new w4 _;exact adf.out;exact zdf.out;exact ndf.out;intro w5 hgS hbS hsS;have X5:=hid (Zan rfl hbS);have P5:=hid (Zae (l:=cdf) hgS);clear hgS hbS hsS;have H5:=hid (H4.out.bel X5.out (Nat.lt_of_lt_of_le hlow.out W4.out.size));have W5:=hid (W4.out.trans (X5.out.mono W4.out.size));have D5:=hid (Zab X5.out D4.out);have E5:=hid (E4.out.bel X5.out);have Y5:=hid (Y4.out.bel X5.out);have F5:=hid (F4.out.bel X5.out);have G5:=hid (Zab X5.out G4.out);clear H4 W4 D4 E4 Y4 F4 G4)
  |((with_reducible refine Zaf rfl 24 _ rfl zTrC [] ?_ ?_ ?_);exact bT.out;rfl;try simp only[sQ])
  |((with_reducible refine Zaf rfl 28 _ rfl chz.toArray [] ?_ ?_ ?_);exact bH.out;rfl;try simp only[sQ])
  |((with_reducible refine Zaa rfl 70 (.tmp 7) rfl w4.heap.size 0 rfl cdf _ ?_ hud rfl jdf.out ?_);exact P5.out;try simp only[sQ])
  |((with_reducible refine ZnP rfl (.tmp 35) rfl dFive cdf ?_ rfl ?_ ?_);exact hcdf.out;exact ldp.out;intro g6 w6 hg6 r6 b6;have X6:=hid b6;have V6:=hid r6;clear b6 r6;have H6:=hid (H5.out.bel X6.out (Nat.lt_of_lt_of_le hlow.out W5.out.size));have W6:=hid (W5.out.trans (X6.out.mono W5.out.size));have D6:=hid (Zab X6.out D5.out);have E6:=hid (E5.out.bel X6.out);have Y6:=hid (Y5.out.bel X6.out);have F6:=hid (F5.out.bel X6.out);have G6:=hid (Zab X6.out G5.out);have P6:=hid (Zab X6.out P5.out);clear H5 W5 D5 E5 Y5 F5 G5 P5;try simp only[sQ])
  |((with_reducible refine Zaf rfl 36 _ rfl #[.slice (some ⟨g6,0,none⟩) 1 1,.slice none 0 0] [(0,.slice (some ⟨g6,0,none⟩) 1 1)] ?_ ?_ ?_);exact ZmR _ _ _;rfl;try simp only[sQ])
  |((with_reducible refine Zaf rfl 26 _ rfl dz.toArray [] ?_ ?_ ?_);exact b0.out;rfl;try simp only[sQ]))
 refine(hA2.out _ _ V6.out H6.out).mono ?_
 rintro e w7 ⟨⟨na7,ra7⟩,ad7,cd7,Rr7,rq7,rfl,ho,hq,hb,hok7⟩
 dsimp only at ho hok7 ⊢
 have H7:=hid (H6.out.bel hb (Nat.lt_of_lt_of_le hlow.out W6.out.size))
 have W7:=hid (W6.out.trans (hb.mono W6.out.size))
 have D7:=hid (Zab hb D6.out)
 have E7:=hid (E6.out.bel hb)
 have Y7:=hid (Y6.out.bel hb)
 have F7:=hid (F6.out.bel hb)
 have G7:=hid (Zab hb G6.out)
 have P7:=hid (Zab hb P6.out)
 have V7:=hid (V6.out.bel hb)
 clear H6 W6 D6 E6 Y6 F6 G6 P6 V6
 have L7:=hid (OwnR.row ho)
 have M7:=hid (OwnR.row hq)
 replace hok7:=hid hok7
 clear hb ho hq hA2
 obtain⟨k1,k2,k3⟩:=hok7.out
 have hGt:=hid (fun F A c W hW=>hGo.out ⟨na7,ra7⟩ F A c W hW k1 k2 k3)
 dsimp only at hGt
 clear k1 k2 k3 hGo hok7
 have ea7:=hid (((Zad (w7.alloc (.cells zTrC 24)) (.cells zHdC 28)).block _ (by rw[World.size_alloc];exact Nat.lt_succ_self _)).trans (heap_alloc_new w7 (.cells zTrC 24)))
 have eb7:=heap_alloc_new (w7.alloc (.cells zTrC 24)) (.cells zHdC 28)
 rw[World.size_alloc]at eb7
 replace eb7:=hid eb7
 have hW7:=hid (Zag (Zad w7 (.cells zTrC 24)) (Zad (w7.alloc (.cells zTrC 24)) (.cells zHdC 28)))
 have hiQ:=hid (show (Tryz.prog.info? 24).map (·.size)=some ([Value.slice ad7 na7.length cd7,.int .i64 ra7]).length from Zah)
 go_wp2_with (first
  |(with_reducible refine Zac rfl 24 rfl zTrC Zas ?_)
  |(with_reducible refine Zac rfl 28 rfl zHdC Za9 ?_)
  |((with_reducible refine wpList_store_row rfl 24 (.tmp 8) (.tmp 40) rfl _ _ rfl rfl 24 zTrC ?_ ?_ ?_ ?_ ?_);exact ea7.out;exact Zah;rfl;exact Zat ad7 na7.length cd7 ra7;intro w8a g1 b1 s1;refine wpList_store_row rfl 28 (.tmp 9) (.tmp 41) rfl (w7.heap.size+1) _ ?_ rfl 28 zHdC ?_ ?_ ?_ ?_ ?_;(first|rfl|(simp only[World.size_alloc];rfl));exact(b1.block _ (block_lt eb7.out) (by simp)).trans eb7.out;exact ahh.out;exact zhh.out;exact nhh.out;intro w8 g2 b2 s2;have X8a:=hW7.out.grown b1 hW7.out.size (fun k e=>by injection e with e;omega);have X8:=hid (X8a.grown b2 X8a.size (fun k e=>by injection e with e;omega));have Q8:=hid (BoxT.of (Zae (l:=[Value.slice ad7 na7.length cd7,.int .i64 ra7]) ((b2.block _ (block_lt g1) (by simp)).trans g1)));have O8:=hid (Zae (l:=hdC hh) g2);clear g1 b1 s1 g2 b2 s2 X8a ea7 eb7 hW7;have H8:=hid (H7.out.bel X8.out (Nat.lt_of_lt_of_le hlow.out W7.out.size));have W8:=hid (W7.out.trans (X8.out.mono W7.out.size));have D8:=hid (Zab X8.out D7.out);have E8:=hid (E7.out.bel X8.out);have Y8:=hid (Y7.out.bel X8.out);have F8:=hid (F7.out.bel X8.out);have G8:=hid (Zab X8.out G7.out);have P8:=hid (Zab X8.out P7.out);have V8:=hid (V7.out.bel X8.out);have L8:=hid (L7.out.bel X8.out);have M8:=hid (M7.out.bel X8.out);clear H7 W7 D7 E7 Y7 F7 G7 P7 V7 L7 M7)
  |(with_reducible refine lDr Q8.out.all hiQ.out hut ?_ rfl rfl rfl rfl)
  |((with_reducible refine Zaf rfl 26 _ rfl d1.toArray [(0,.int .u8 1)] ?_ ?_ ?_);exact b1.out;rfl))
 refine(hGt.out _ ad7 cd7 _ L8.out).mono ?_
 rintro e w9 ⟨rfl,hb⟩
 have H9:=hid (H8.out.bel hb (Nat.lt_of_lt_of_le hlow.out W8.out.size))
 have W9:=hid (W8.out.trans (hb.mono W8.out.size))
 have D9:=hid (Zab hb D8.out)
 have E9:=hid (E8.out.bel hb)
 have Y9:=hid (Y8.out.bel hb)
 have F9:=hid (F8.out.bel hb)
 have G9:=hid (Zab hb G8.out)
 have P9:=hid (Zab hb P8.out)
 have V9:=hid (V8.out.bel hb)
 have L9:=hid (L8.out.bel hb)
 have M9:=hid (M8.out.bel hb)
 have Q9:=hid (Q8.out.bel hb)
 have O9:=hid (Zab hb O8.out)
 clear H8 W8 D8 E8 Y8 F8 G8 P8 V8 L8 M8 Q8 O8
 clear hb hGt
 have e9:=hid (heap_alloc_new w9 (.cells (acC ac0).toArray 118))
 go_wp2_with (first
  |(with_reducible refine Zac rfl 118 rfl (acC ac0).toArray ZaZ ?_)
  |((with_reducible refine wpList_store_row rfl 118 (.tmp 12) (.tmp 48) rfl _ _ rfl rfl 118 (acC ac0).toArray ?_ ?_ ?_ ?_ ?_);exact e9.out;exact ZaM;rfl;exact na5.out;intro w10 hgS hbS hsS;have X10:=hid (Zan rfl hbS);have U10:=hid (Zae (l:=acC a5) hgS);clear hgS hbS hsS;have H10:=hid (H9.out.bel X10.out (Nat.lt_of_lt_of_le hlow.out W9.out.size));have W10:=hid (W9.out.trans (X10.out.mono W9.out.size));have D10:=hid (Zab X10.out D9.out);have E10:=hid (E9.out.bel X10.out);have Y10:=hid (Y9.out.bel X10.out);have F10:=hid (F9.out.bel X10.out);have G10:=hid (Zab X10.out G9.out);have P10:=hid (Zab X10.out P9.out);have V10:=hid (V9.out.bel X10.out);have L10:=hid (L9.out.bel X10.out);have M10:=hid (M9.out.bel X10.out);have Q10:=hid (Q9.out.bel X10.out);have O10:=hid (Zab X10.out O9.out);clear H9 W9 D9 E9 Y9 F9 G9 P9 V9 L9 M9 Q9 O9))
 obtain⟨rb,ro,hRr,hrr,-⟩:=ZnG M10.out (j:=0) (by simp)
 subst hRr
 rw[Nat.zero_mul,Nat.add_zero]at hrr
 replace hrr:=hid (show w10.rangeAt rb ro (rcC rc) from hrr)
 have m10:=(BoxH.of O10.out).m
 rw[h2m.out]at m10
 replace m10:=hid m10
 refine wp_region_noPanic ?_
 refine wp_region_held_drew (S:=fun w'=>Below w10.heap.size w10 w') (by kernel_rfl) ?_ (fun hHeld=>?_)
 ·exact Zao w10
 refine' tkP 0 rfl ?_
 try simp only[sQ]
 refine' tkP 1 rfl ?_
 try simp only[sQ]
 refine' tkP 2 rfl ?_
 try simp only[sQ]
 refine' tkP 3 rfl ?_
 try simp only[sQ]
 refine' tkP 4 rfl ?_
 try simp only[sQ]
 refine' tkP 5 rfl ?_
 try simp only[sQ]
 refine' tkP 6 rfl ?_
 try simp only[sQ]
 refine' tkP 7 rfl ?_
 try simp only[sQ]
 refine' tkP 8 rfl ?_
 try simp only[sQ]
 refine' tkP 9 rfl ?_
 try simp only[sQ]
 refine' tkP 10 rfl ?_
 try simp only[sQ]
 refine' tkP 11 rfl ?_
 try simp only[sQ]
 refine' tkM 12 rfl (fun _ h=>Zab h G10.out) huh jh1.out ?_
 try simp only[sQ]
 refine' tkM 13 rfl (fun _ h=>Zab h D10.out) hu hiM.out ?_
 try simp only[sQ]
 refine rdH 14 rfl fun K hK=>?_
 go_simp
 refine(hNo.out _ (H10.out.bel hHeld (Nat.lt_of_lt_of_le hlow.out W10.out.size))).mono ?_
 rintro e v1 ⟨rfl,hB⟩
 go_wp2_with fail
 refine hK.out _ _ (hHeld.trans (hB.mono hHeld.size)) fun hHeld=>?_
 clear hK K
 try simp only[sQ]
 refine rdH 15 rfl fun K hK=>?_
 go_simp
 refine(hNo.out _ (H10.out.bel hHeld (Nat.lt_of_lt_of_le hlow.out W10.out.size))).mono ?_
 rintro e v2 ⟨rfl,hB⟩
 go_wp2_with fail
 refine hK.out _ _ (hHeld.trans (hB.mono hHeld.size)) fun hHeld=>?_
 clear hK K
 try simp only[sQ]
 refine' tkH 16 rfl (Yb1 (by rfl) _ _ rfl _ _ (bN.out) rfl) ?_
 try simp only[sQ]
 refine' tkP 17 rfl ?_
 try simp only[sQ]
 refine' tkP 18 rfl ?_
 try simp only[sQ]
 refine' tkP 19 rfl ?_
 try simp only[sQ]
 refine dnH ?_
 refine NoPanic.normal ?_
 have Z11:=hid (Zab hHeld hrr.out)
 have m11:=hid ((hHeld.cell (World.block_lt_of_cell? _ _ m10.out)).trans m10.out)
 have P11:=hid (Zab hHeld P10.out)
 have U11:=hid (Zab hHeld U10.out)
 have W11:=hid (W10.out.trans (hHeld.mono W10.out.size))
 have H11:=hid (H10.out.bel hHeld (Nat.lt_of_lt_of_le hlow.out W10.out.size))
 clear hHeld
 go_wp2_with fail
 refine wp_region_noPanic ?_
 refine wp_region_held_drew (S:=fun w'=>Below v2.heap.size v2 w') (by kernel_rfl) ?_ (fun hHeld=>?_)
 ·exact Zao v2
 refine' tkP 0 rfl ?_
 try simp only[sQ]
 refine' tkP 1 rfl ?_
 try simp only[sQ]
 refine' tkP 2 rfl ?_
 try simp only[sQ]
 refine' tkP 3 rfl ?_
 try simp only[sQ]
 refine' tkP 4 rfl ?_
 try simp only[sQ]
 refine' tkP 5 rfl ?_
 try simp only[sQ]
 refine' tkP 6 rfl ?_
 try simp only[sQ]
 refine' tkL 7 ?_ rfl ?_ ?_
 rotate_left
 ·intro W hSw
  have hCell:=(hSw.cell (World.block_lt_of_cell? _ _ m11.out)).trans m11.out
  go_simp
  first|done|(with_reducible rfl)
 try simp only[sQ]
 refine' tkP 8 rfl ?_
 try simp only[sQ]
 refine' tkP 9 rfl ?_
 try simp only[sQ]
 refine' tkP 10 rfl ?_
 try simp only[sQ]
 refine' tkP 11 rfl ?_
 try simp only[sQ]
 refine' tkP 12 rfl ?_
 try simp only[sQ]
 refine' tkP 13 rfl ?_
 try simp only[sQ]
 refine' tkP 14 rfl ?_
 try simp only[sQ]
 refine' tkP 15 rfl ?_
 try simp only[sQ]
 refine' tkP 16 rfl ?_
 try simp only[sQ]
 refine' tkP 17 rfl ?_
 try simp only[sQ]
 refine' tkM 18 rfl (fun _ h=>Zab h Z11.out) hur jrc.out ?_
 try simp only[sQ]
 refine' tkM 19 rfl (fun _ h=>Zab h P11.out) hud jdf.out ?_
 try simp only[sQ]
 refine rdH 20 rfl fun K hK=>?_
 go_simp
 refine(hDp.out _ (H11.out.bel hHeld (Nat.lt_of_lt_of_le hlow.out W11.out.size))).mono ?_
 rintro e v3 ⟨rfl,hB⟩
 go_wp2_with fail
 refine hK.out _ _ (hHeld.trans (hB.mono hHeld.size)) fun hHeld=>?_
 clear hK K
 try simp only[sQ]
 refine' tkH 21 rfl (Yb1 (by rfl) _ _ rfl _ _ (bR.out) rfl) ?_
 try simp only[sQ]
 refine' tkP 22 rfl ?_
 try simp only[sQ]
 refine' tkP 23 rfl ?_
 try simp only[sQ]
 refine' tkP 24 rfl ?_
 try simp only[sQ]
 refine' tkP 25 rfl ?_
 try simp only[sQ]
 refine' tkP 26 rfl ?_
 try simp only[sQ]
 refine' tkP 27 rfl ?_
 try simp only[sQ]
 refine' tkP 28 rfl ?_
 try simp only[sQ]
 refine' tkM 29 rfl (fun _ h=>Zab h U11.out) hua ja5.out ?_
 try simp only[sQ]
 refine' tkH 30 rfl (Yb1 (by rfl) _ _ rfl _ _ (bA.out) rfl) ?_
 try simp only[sQ]
 refine' tkP 31 rfl ?_
 try simp only[sQ]
 refine' tkP 32 rfl ?_
 try simp only[sQ]
 refine' tkP 33 rfl ?_
 try simp only[sQ]
 refine dnH ?_
 refine NoPanic.normal ?_
 go_wp2
 go_ret
 exact⟨rfl,W11.out.trans (hHeld.mono W11.out.size)⟩
end Go.Proofs.YtomhoehlgagiiaaGreatDoor
