import Derived.Test.YtnnclggeifnomaaGreatDoorCaC
set_option linter.all false
namespace Go.Proofs.YtnnclggeifnomaaGreatDoor
open Go.RowKit
set_option maxRecDepth 100000
set_option maxHeartbeats 16000000 in
theorem YlO(w:World)(hT:Tab w):Calls Tryz.prog 12 #[] w fun e w'=>e=.returned (.bool true)∧Below w.heap.size w w':=by
 have huc:=Tryz.underlying27
 have huh:=Tryz.underlying51
 have H0:=hid hT
 have hlow:=hid hT.low
 have W0:=hid (Below.refl w.heap.size w)
 have hNw:=hid (fun W hT=>Yl8 W hT)
 have hH1:=hid (fun s W (h:ChIn (fun b=>w.heap.size≤b) W bornC s) hT=>Ym1 h born_b hT bornH Yl0 Ylt)
 have hAd:=hid (fun s W (h:ChIn (fun b=>w.heap.size≤b) W bornC s) hT=>YmK (D:=none) (d:=0) (ds:=[]) (X:=none) (e:=0) (xs:=[]) (box:=zBox) h born_b (Row.nil (fun _=>False) W none) (Row.nil (fun _=>False) W none) (by decide) (by decide) hT 0 (AddOk bornC [] [] zBox) YlZ (fun cc h=>h))
 have hH2:=hid (fun (B:Nat) (c:Ch) (h1:mayC c=true) (h2:ChB 50000 c) (x:Hd) (h3:topH c=x) s W (h:ChIn (fun b=>B≤b) W c s) hT=>Ym1 h h2 hT x h1 h3)
 have hCu:=hid (fun (B:Nat) (c cc:Ch) (h2:ChB 50000 c) (h3:cutE c 0=0) (h4:cutR c 0=cc) s W (h:ChIn (fun b=>B≤b) W c s) hT=>Yns h h2 hT 0 cc h3 h4)
 have hNo:Hid (∀ W,Tab W→Calls Tryz.prog 46 #[] W fun e w'=>e=.returned (.agg (noneK.1.map bv).toArray)∧Below W.heap.size W w'):=hid (fun W hT=>ZdS W hT)
 have bB:=hid ZmQ
 have b0:=hid (show Tryz.prog.built 37 []=some (zBox.1.map bv).toArray by kernel_rfl)
 have bN:=hid (show Tryz.prog.built 51 [(2,.agg (noneK.1.map bv).toArray),(3,.agg (noneK.1.map bv).toArray)]=some (hdC bornH).toArray from Yln noneK noneK)
 have okb:bornH.ok:=⟨⟨by decide,by decide⟩,⟨by decide,by decide⟩⟩
 have hEh:∀W,(Op.equalIn 10000 51 (.agg (hdC bornH).toArray) (.agg (hdC bornH).toArray)).run Tryz.prog W=.ok true W:=fun W=>ZhR _ _ okb okb true (Vy2 rfl) W
 have hOne:=hid (fun d h=>YmM (d:=d) h)
 clear okb
 have nbh:=hid (ZbM (bornH))
 have jbh:=hid (Zbu (bornH))
 have abh:=hid (Zbg (bornH))
 have zbh:=hid (Zbw (bornH))
 obtain⟨bh,hbh⟩:∃y,bornH=y:=⟨_,rfl⟩
 rw[hbh]at nbh jbh abh zbh
 rw[hbh]at hH1 hEh bN
 replace hbh:=hid hbh
 clear hT
 generalize bornC=c0 at *
 generalize zBox.1.map bv=dz at *
 go_enter Tryz.func12,Tryz.ntmps12
 go_wp2_with fail
 refine(hNw.out _ H0.out).mono ?_
 rintro e w1 ⟨s1,rfl,oo,hb⟩
 have H1:=hid (H0.out.bel hb (Vx4 hlow.out W0.out.size))
 have W1:=hid (W0.out.trans (hb.mono W0.out.size))
 clear H0 W0
 have O1:=hid oo
 clear hb hNw
 have e1:=hid (Vx0 w1 (.cells zChC 27))
 go_wp2_with (first
  |(with_reducible refine Zac rfl 27 rfl zChC YkN ?_)
  |((with_reducible refine stW 1 15 _ 27 zChC ?_ ?_ ?_ ?_ ?_);exact e1.out;exact YkJ c0 s1;rfl;exact YkR c0 s1;intro w2 hgS hbS hsS;have X2:=hid (Zan rfl hbS);have C2:=hid (Zae (l:=chV c0 s1) hgS);clear hgS hbS hsS;have H2:=hid (H1.out.bel X2.out (Vx4 hlow.out W1.out.size));have W2:=hid (W1.out.trans (X2.out.mono W1.out.size));have O2:=hid (O1.out.bel X2.out);clear H1 W1 O1)
  |(with_reducible refine lDr C2.out (YkJ c0 s1) huc ?_))
 refine(hH1.out s1 _ O2.out.inn H2.out).mono ?_
 rintro e w3 ⟨rfl,hb⟩
 have H3:=hid (H2.out.bel hb (Vx4 hlow.out W2.out.size))
 have W3:=hid (W2.out.trans (hb.mono W2.out.size))
 have O3:=hid (O2.out.bel hb)
 have C3:=hid (Zab hb C2.out)
 clear H2 W2 O2 C2
 clear hb hH1
 have e3:=hid (Vx0 w3 (.cells zHdC 51))
 go_wp2_with (first
  |(with_reducible refine Zac rfl 51 rfl zHdC Za9 ?_)
  |((with_reducible refine stW 3 20 _ 51 zHdC ?_ ?_ ?_ ?_ ?_);exact e3.out;exact abh.out;exact zbh.out;exact nbh.out;intro w4 hgS hbS hsS;have X4:=hid (Zan rfl hbS);have F4:=hid (Zae (l:=hdC bh) hgS);clear hgS hbS hsS;have H4:=hid (H3.out.bel X4.out (Vx4 hlow.out W3.out.size));have W4:=hid (W3.out.trans (X4.out.mono W3.out.size));have O4:=hid (O3.out.bel X4.out);have C4:=hid (Zab X4.out C3.out);clear H3 W3 O3 C3)
  |(with_reducible refine lDr C4.out (YkJ c0 s1) huc ?_)
  |((with_reducible refine Zaf rfl 35 _ rfl #[.slice none 0 0,.slice none 0 0] [] ?_ ?_ ?_);exact bB.out;rfl)
  |((with_reducible refine Zaf rfl 37 _ rfl dz.toArray [] ?_ ?_ ?_);exact b0.out;rfl))
 refine(hAd.out s1 _ O4.out.inn H4.out).mono ?_
 rintro e w5 ⟨cc5,s5,rfl,po,hb,hok5⟩
 have H5:=hid (H4.out.bel hb (Vx4 hlow.out W4.out.size))
 have W5:=hid (W4.out.trans (hb.mono W4.out.size))
 have O5:=hid (O4.out.bel hb)
 have C5:=hid (Zab hb C4.out)
 have F5:=hid (Zab hb F4.out)
 clear H4 W4 O4 C4 F4
 have P5:=hid po
 clear hb hAd
 obtain⟨⟨k1,k2⟩,k3,⟨k4,k5⟩,k6,k7,k8⟩:=hOne.out cc5 hok5
 clear hOne hok5
 obtain⟨h7,hh7⟩:∃x,topH cc5=x:=⟨_,rfl⟩
 rw[hh7]at k2
 have K1:=hid k1
 have K2:=hid k2
 have K3:=hid k3
 have K4:=hid k4
 have K5:=hid k5
 have K6:=hid k6
 have K7:=hid k7
 have K8:=hid k8
 have K9:=hid hh7
 clear k1 k2 k3 k4 k5 k6 k7 k8 hh7
 have e5:=hid (Vx0 w5 (.cells zChC 27))
 go_wp2_with (first
  |(with_reducible refine Zac rfl 27 rfl zChC YkN ?_)
  |((with_reducible refine stW 5 27 _ 27 zChC ?_ ?_ ?_ ?_ ?_);exact e5.out;exact YkJ cc5 s5;rfl;exact YkR cc5 s5;intro w6 hgS hbS hsS;have X6:=hid (Zan rfl hbS);have D6:=hid (Zae (l:=chV cc5 s5) hgS);clear hgS hbS hsS;have H6:=hid (H5.out.bel X6.out (Vx4 hlow.out W5.out.size));have W6:=hid (W5.out.trans (X6.out.mono W5.out.size));have O6:=hid (O5.out.bel X6.out);have C6:=hid (Zab X6.out C5.out);have F6:=hid (Zab X6.out F5.out);have P6:=hid (P5.out.bel X6.out);clear H5 W5 O5 C5 F5 P5)
  |(with_reducible refine lDr D6.out (YkJ cc5 s5) huc ?_))
 refine(hH2.out _ cc5 K1.out K3.out h7 K9.out s5 _ P6.out.inn H6.out).mono ?_
 rintro e w7 ⟨rfl,hb⟩
 have H7:=hid (H6.out.bel hb (Vx4 hlow.out W6.out.size))
 have W7:=hid (W6.out.trans (hb.mono W6.out.size))
 have O7:=hid (O6.out.bel hb)
 have C7:=hid (Zab hb C6.out)
 have F7:=hid (Zab hb F6.out)
 have P7:=hid (P6.out.bel hb)
 have D7:=hid (Zab hb D6.out)
 clear H6 W6 O6 C6 F6 P6 D6
 clear hb 
 have nh7:=hid (ZbM (h7))
 have jh7:=hid (Zbu (h7))
 have ah7:=hid (Zbg (h7))
 have zh7:=hid (Zbw (h7))
 have e7:=hid (Vx0 w7 (.cells zHdC 51))
 go_wp2_with (first
  |(with_reducible refine Zac rfl 51 rfl zHdC Za9 ?_)
  |((with_reducible refine stW 7 32 _ 51 zHdC ?_ ?_ ?_ ?_ ?_);exact e7.out;exact ah7.out;exact zh7.out;exact nh7.out;intro w8 hgS hbS hsS;have X8:=hid (Zan rfl hbS);have E8:=hid (Zae (l:=hdC h7) hgS);clear hgS hbS hsS;have H8:=hid (H7.out.bel X8.out (Vx4 hlow.out W7.out.size));have W8:=hid (W7.out.trans (X8.out.mono W7.out.size));have O8:=hid (O7.out.bel X8.out);have C8:=hid (Zab X8.out C7.out);have F8:=hid (Zab X8.out F7.out);have P8:=hid (P7.out.bel X8.out);have D8:=hid (Zab X8.out D7.out);clear H7 W7 O7 C7 F7 P7 D7)
  |(with_reducible refine lDr D8.out (YkJ cc5 s5) huc ?_))
 refine(hCu.out _ cc5 (cutC cc5 0) K3.out K4.out K5.out s5 _ P8.out.inn H8.out).mono ?_
 rintro e w9 ⟨s9,rfl,qo,hb⟩
 have H9:=hid (H8.out.bel hb (Vx4 hlow.out W8.out.size))
 have W9:=hid (W8.out.trans (hb.mono W8.out.size))
 have O9:=hid (O8.out.bel hb)
 have C9:=hid (Zab hb C8.out)
 have F9:=hid (Zab hb F8.out)
 have P9:=hid (P8.out.bel hb)
 have D9:=hid (Zab hb D8.out)
 have E9:=hid (Zab hb E8.out)
 clear H8 W8 O8 C8 F8 P8 D8 E8
 have Q9:=hid qo
 clear hb hCu
 generalize cutC cc5 0=c9 at *
 have e9:=hid (Vx0 w9 (.cells zChC 27))
 go_wp2_with (first
  |(with_reducible refine Zac rfl 27 rfl zChC YkN ?_)
  |((with_reducible refine stW 9 37 _ 27 zChC ?_ ?_ ?_ ?_ ?_);exact e9.out;exact YkJ c9 s9;rfl;exact YkR c9 s9;intro w10 hgS hbS hsS;have X10:=hid (Zan rfl hbS);have J10:=hid (Zae (l:=chV c9 s9) hgS);clear hgS hbS hsS;have H10:=hid (H9.out.bel X10.out (Vx4 hlow.out W9.out.size));have W10:=hid (W9.out.trans (X10.out.mono W9.out.size));have O10:=hid (O9.out.bel X10.out);have C10:=hid (Zab X10.out C9.out);have F10:=hid (Zab X10.out F9.out);have P10:=hid (P9.out.bel X10.out);have D10:=hid (Zab X10.out D9.out);have E10:=hid (Zab X10.out E9.out);have Q10:=hid (Q9.out.bel X10.out);clear H9 W9 O9 C9 F9 P9 D9 E9 Q9)
  |(with_reducible refine lDr J10.out (YkJ c9 s9) huc ?_))
 refine(hH2.out _ c9 K6.out K8.out bh (K7.out.trans hbh.out) s9 _ Q10.out.inn H10.out).mono ?_
 rintro e w11 ⟨rfl,hb⟩
 have H11:=hid (H10.out.bel hb (Vx4 hlow.out W10.out.size))
 have W11:=hid (W10.out.trans (hb.mono W10.out.size))
 have O11:=hid (O10.out.bel hb)
 have C11:=hid (Zab hb C10.out)
 have F11:=hid (Zab hb F10.out)
 have P11:=hid (P10.out.bel hb)
 have D11:=hid (Zab hb D10.out)
 have E11:=hid (Zab hb E10.out)
 have Q11:=hid (Q10.out.bel hb)
 have J11:=hid (Zab hb J10.out)
 clear H10 W10 O10 C10 F10 P10 D10 E10 Q10 J10
 clear hb hH2
 have e11:=hid (Vx0 w11 (.cells zHdC 51))
 go_wp2_with (first
  |(with_reducible refine Zac rfl 51 rfl zHdC Za9 ?_)
  |((with_reducible refine stW 11 42 _ 51 zHdC ?_ ?_ ?_ ?_ ?_);exact e11.out;exact abh.out;exact zbh.out;exact nbh.out;intro w12 hgS hbS hsS;have X12:=hid (Zan rfl hbS);have M12:=hid (Zae (l:=hdC bh) hgS);clear hgS hbS hsS;have H12:=hid (H11.out.bel X12.out (Vx4 hlow.out W11.out.size));have W12:=hid (W11.out.trans (X12.out.mono W11.out.size));have O12:=hid (O11.out.bel X12.out);have C12:=hid (Zab X12.out C11.out);have F12:=hid (Zab X12.out F11.out);have P12:=hid (P11.out.bel X12.out);have D12:=hid (Zab X12.out D11.out);have E12:=hid (Zab X12.out E11.out);have Q12:=hid (Q11.out.bel X12.out);have J12:=hid (Zab X12.out J11.out);clear H11 W11 O11 C11 F11 P11 D11 E11 Q11 J11))
 have c12:=E12.out 0 (.int .i64 h7.h) rfl
 rw[K2.out]at c12
 refine rgB fun hHeld=>?_
 refine' tkW 0 1 ?_
 refine' tkW 2 3 ?_
 simp only[sQ]
 refine' tkW 4 5 ?_
 refine' tkP 6 rfl ?_
 refine' tkM 7 rfl (fun _ h=>Zab h F12.out) huh jbh.out ?_
 simp only[sQ]
 refine rdC 8 rfl (hNo.out _ (H12.out.bel hHeld (Vx4 hlow.out W12.out.size))) fun v1 hB hHeld=>?_
 try simp only[sQ]
 refine rdC 9 rfl (hNo.out _ (H12.out.bel hHeld (Vx4 hlow.out W12.out.size))) fun v2 hB hHeld=>?_
 try simp only[sQ]
 refine' tkH 10 rfl (Yb1 (by rfl) _ _ rfl _ _ (bN.out) rfl) ?_
 simp only[sQ]
 refine' tkW 11 12 ?_
 refine' tkW 13 14 ?_
 simp only[sQ]
 refine' tkW 15 16 ?_
 refine' tkW 17 18 ?_
 simp only[sQ]
 refine' tkW 19 20 ?_
 refine' tkW 21 22 ?_
 simp only[sQ]
 refine' tkC 23 rfl c12 ?_
 refine' tkW 24 25 ?_
 refine' tkP 26 rfl ?_
 simp only[sQ]
 refine' tkW 27 28 ?_
 refine' tkW 29 30 ?_
 simp only[sQ]
 refine' tkW 31 32 ?_
 refine' tkW 33 34 ?_
 simp only[sQ]
 refine' tkM 35 rfl (fun _ h=>Zab h M12.out) huh jbh.out ?_
 refine' tkM 36 rfl (fun _ h=>Zab h F12.out) huh jbh.out ?_
 refine' tkW 37 38 ?_
 simp only[sQ]
 refine' tkP 39 rfl ?_
 simp only[sQ]
 refine dnN ?_
 go_wp2
 go_ret
 exact⟨rfl,W12.out.trans (hHeld.mono W12.out.size)⟩
end Go.Proofs.YtnnclggeifnomaaGreatDoor
