import Derived.Test.YtimaoonpgilekaaDoorTxL
import Derived.Test.YtimaoonpgilekaaDoorAcK
set_option maxRecDepth 100000
set_option linter.all false
set_option maxHeartbeats 2000000
namespace Go.Proofs.YtimaoonpgilekaaDoor
open Go.RowKit
theorem ZgS(k:UInt8)(A:Option Addr)(c:Nat)(l:List UInt8)(w:World)(h:Rd w A l)(hc:l.length≤c∧c≤maxLen)(hl:l.length≤90000)(hT:Tab w):
  Calls Tryd.prog 33 #[.int .u8 (k.toNat:Int),.slice (some ⟨w.heap.size,0,none⟩) 1 1] (w.alloc (.cells #[.slice A l.length c] 68)) fun e w'=>e=.returned (.agg ((sha256 (tagB k [l])).map bv).toArray)∧Below w.heap.size w w':=by
 have hR:=ZgF w A c l 68 h hc
 refine(Zcx k (some ⟨w.heap.size,0,none⟩) 1 1 [l] _ hR rfl (by simp) (by unfold tagB partB;simp[Zav];omega) (hT.bel (Zad w _) hT.low)).mono ?_
 rintro e w' ⟨rfl,hb⟩
 exact⟨rfl,(Zad w _).trans (hb.mono (Zad w (.cells #[.slice A l.length c] 68)).size)⟩
theorem Zc2(x:Tx)(hx:x.ok)(w:World)(hT:Tab w):Calls Tryd.prog 10 #[.agg (txC x).toArray] w fun e w'=>e=.returned (.agg (txC (signX x)).toArray)∧Below w.heap.size w w':=by
 have hu:=Tryd.underlying23
 have hux:=Tryd.underlying33
 have h0:=Vx0 w (.cells (txC x).toArray 33)
 have h1:=Vx0 (w.alloc (.cells (txC x).toArray 33)) (.cells zTxC 33)
 have b1:=Zad (w.alloc (.cells (txC x).toArray 33)) (.cells zTxC 33)
 rw[Vx2]at h1
 have W1:=hid ((Zad w (.cells (txC x).toArray 33)).trans (b1.mono (Zad w _).size))
 replace h0:=hid ((b1.block _ (block_lt h0)).trans h0)
 have X1:=hid (Zae h0.out)
 have jx:=hid (Zby x)
 have jy:=hid (Zby (signX x))
 have jz:=hid (Zb2 (signX x))
 have oz:=hid (Zdw (signX x))
 have ez:=hid (ZcS (signX x))
 have jd:=hid (Zfq (signD x))
 have od:=hid (ZpJ (signD x))
 have hBd:=hid (fun W=>ZeD x hx W)
 have lb:=Zci x
 have hO:=fun A c W (h:Rd W A (bodyX x)) (h1:(bodyX x).length≤c) (h2:c≤maxLen) (hT:Tab W)=>ZgS 4 A c (bodyX x) W h ⟨h1,h2⟩ (by rw[lb];decide) hT
 have hD:sha256 (tagB 4 [bodyX x])=(signD x).1:=rfl
 rw[hD,lb]at hO
 replace hO:=hid hO
 have hS:=hid (Zh7 x (signD x))
 have hSx:({ x with s:=signD x }:Tx)=signX x:=rfl
 rw[hSx]at hS
 have hfit:=hid (show 67+((signD x).1.map bv).length≤(txC x).toArray.size from by rw[Vx6,(signD x).2,Vx7,ZgR];decide)
 replace h1:=hid h1
 have hlow:=hid hT.low
 replace hT:=hid hT
 clear b1 hD hSx
 generalize (signD x).1.map bv=dD at *
 generalize txC (signX x)=cz at *
 generalize txC x=cx at *
 generalize bodyX x=zb at *
 go_enter Tryd.func10,Tryd.ntmps10
 go_wp2_with (first
  |(with_reducible refine Zac rfl 33 rfl zTxC Zbv ?_)
  |(with_reducible refine lDr X1.out jx.out hux ?_))
 refine(hBd.out _).mono ?_
 rintro e w3 ⟨A3,c3,rfl,o3,hb3⟩
 have H3:=hid ((hb3.block _ (block_lt h0.out)).trans h0.out)
 have R3:=hid ((hb3.block _ (block_lt h1.out)).trans h1.out)
 have W3:=hid (W1.out.trans (hb3.mono W1.out.size))
 have q1:=o3.cap.1
 have q2:=o3.cap.2
 have q3:=hid o3.rd
 rw[lb]at q1
 have O3:=hid (hO.out A3 c3 w3 q3.out q1 q2 (hT.out.bel W3.out hlow.out))
 clear hb3 o3 q1 q2 hO
 go_wp2_with fail
 refine O3.out.mono ?_
 rintro e w4 ⟨rfl,hb4⟩
 have H4:=hid ((hb4.block _ (block_lt H3.out)).trans H3.out)
 have R4:=hid ((hb4.block _ (block_lt R3.out)).trans R3.out)
 have W4:=hid (W3.out.trans (hb4.mono W3.out.size))
 clear hb4
 go_wp2_with (first
  |((with_reducible refine ZbZ rfl 23 (.tmp 7) (.tmp 6) rfl w.heap.size 67 dD cx.toArray 33 rfl rfl ?_ ?_ ?_ ?_ ?_);exact H4.out;exact hfit.out;exact jd.out;exact od.out;intro w5 hg5 hc5;rw[hS.out]at hg5;have Y5:=hid (Zae hg5);have R5:=hid ((hc5.block _ (block_lt R4.out) (by simp)).trans R4.out);have W5:=hid (W4.out.trans (hc5.below W4.out.size (fun b hb e=>by omega)));clear hg5 hc5)
  |(with_reducible refine lDr Y5.out jy.out hux ?_)
  |((with_reducible refine stW 2 8 (w.heap.size+1) 33 zTxC ?_ ?_ ?_ ?_ ?_);exact R5.out;exact jz.out;exact ez.out;exact oz.out;intro w6 hg6 hb6 hs6))
 refine Vy0 (v:=.agg cz.toArray) ?_ rfl ⟨rfl,?_⟩
 ·exact results_cell_row Tryd.results10 _ _ (w.heap.size+1) 33 _ (0,0) _ rfl hg6 hux rfl jz.out
 ·exact W5.out.grown hb6 W5.out.size (fun g e=>by injection e with e;omega)
theorem Zfo{x:Tx}(h:x.ok):(signX x).ok:=h
theorem Zds(x:Tx)(hx:x.ok)(b:Bool)(hb:decide (x=signX x)=b)(w:World)(hT:Tab w):Calls Tryd.prog 24 #[.agg (txC x).toArray] w fun e w'=>e=.returned (.int .i64 (if b=true then 0 else 110))∧Below w.heap.size w w':=by
 have hux:=Tryd.underlying33
 have B0:=BoxX.new w x 33
 have W0:=hid (Zad w (.cells (txC x).toArray 33))
 have X0:=hid B0.all
 have jx:=hid (Zby x)
 have hS:=hid (fun W hT=>Zc2 x hx W hT)
 have hE:∀W,(Op.equalIn 10000 33 (.agg (txC x).toArray) (.agg (txC (signX x)).toArray)).run Tryd.prog W=.ok b W:=fun W=>Zfm x (signX x) hx (Zfo hx) b hb W
 have hT1:=hid (hT.bel W0.out hT.low)
 have hl1:=hid hT1.out.low
 clear B0 hb hT
 generalize txC (signX x)=cz at *
 generalize txC x=cx at *
 cases b
 all_goals
  go_enter Tryd.func24,Tryd.ntmps24
  go_wp2
  generalize w.alloc (.cells cx.toArray 33)=w1 at *
  refine rgB fun hHeld=>?_
  refine' tkM 0 rfl (fun _ h=>Zab h X0.out) hux jx.out ?_
  refine' tkM 1 rfl (fun _ h=>Zab h X0.out) hux jx.out ?_
  simp only[sQ]
  refine rdC 2 rfl (hS.out _ (hT1.out.bel hHeld hl1.out)) fun v1 hB hHeld=>?_
  try simp only[sQ]
  refine' tkP 3 rfl ?_
  simp only[sQ]
  refine dnN ?_
  go_wp2
  go_ret
  exact⟨rfl,W0.out.trans (hHeld.mono W0.out.size)⟩
theorem Zg2(x:Tx)(hx:x.ok)(w:World)(hT:Tab w):Calls Tryd.prog 25 #[.agg (txC x).toArray] w fun e w'=>e=.returned (.agg ((fromX x).1.map bv).toArray)∧Below w.heap.size w w':=by
 have hu:=Tryd.underlying23
 have B0:=BoxX.new w x 33
 have h0:=Vx0 w (.cells (txC x).toArray 33)
 have h1:=Vx0 (w.alloc (.cells (txC x).toArray 33)) (.cells z32 23)
 have b1:=Zad (w.alloc (.cells (txC x).toArray 33)) (.cells z32 23)
 rw[Vx2]at h1
 have W1:=hid ((Zad w (.cells (txC x).toArray 33)).trans (b1.mono (Zad w _).size))
 have p0:=hid (Zab b1 B0.p)
 have js:=hid (Zfq x.p)
 have jz:=hid (Zvy (fromX x))
 have ez:=hid (zDx (fromX x))
 have oz:=hid (ZpJ (fromX x))
 have hK:=hid (fun W hT=>ZfF x.p W hT)
 have hD:(keyD x.p).1.map bv=(fromX x).1.map bv:=rfl
 rw[hD]at hK
 have hT1:=hid (hT.bel W1.out hT.low)
 replace h1:=hid h1
 clear B0 b1 h0 hD hT
 generalize (fromX x).1.map bv=cz at *
 generalize x.p.1.map bv=cp at *
 generalize txC x=cx at *
 go_enter Tryd.func25,Tryd.ntmps25
 go_wp2_with (first
  |(with_reducible refine Zac rfl 23 rfl z32 Zam ?_)
  |(with_reducible refine lDr p0.out js.out hu ?_))
 refine(hK.out _ hT1.out).mono ?_
 rintro e w4 ⟨rfl,hb4⟩
 have R4:=hid ((hb4.block _ (block_lt h1.out)).trans h1.out)
 have W4:=hid (W1.out.trans (hb4.mono W1.out.size))
 clear hb4
 go_wp2_with (((with_reducible refine stW 2 5 (w.heap.size+1) 23 z32 ?_ ?_ ?_ ?_ ?_);exact R4.out;exact jz.out;exact ez.out;exact oz.out;intro w6 hg6 hb6 hs6))
 refine Vy0 (v:=.agg cz.toArray) ?_ rfl ⟨rfl,?_⟩
 ·exact results_cell_row Tryd.results25 _ _ (w.heap.size+1) 23 _ (0,0) _ rfl hg6 hu rfl jz.out
 ·exact W4.out.grown hb6 W4.out.size (fun g e=>by injection e with e;omega)
end Go.Proofs.YtimaoonpgilekaaDoor
