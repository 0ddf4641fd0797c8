import Derived.Test.YtimaoonpgilekaaDoorStX
import Derived.Test.YtimaoonpgilekaaDoorRefC
import Derived.Test.YtimaoonpgilekaaDoorInW
set_option maxRecDepth 100000
set_option linter.all false
namespace Go.Proofs.YtimaoonpgilekaaDoor
open Go.RowKit
def keyD(p:Dg):Dg:=⟨sha256 (tagB 3 [p.1]),S8.bytes_len _⟩
theorem Zoc(p:Dg)(w:World):Calls Tryd.prog 63 #[.agg (p.1.map bv).toArray] w fun e w'=>e=.returned (.agg ((keyD p).1.map bv).toArray)∧Below w.heap.size w w':=by
 have h0:=Vx0 w (.cells (p.1.map bv).toArray 23)
 have b0:=Zad w (.cells (p.1.map bv).toArray 23)
 have h1:=Vx0 (w.alloc (.cells (p.1.map bv).toArray 23)) (.cells z32 23)
 have b1:=Zad (w.alloc (.cells (p.1.map bv).toArray 23)) (.cells z32 23)
 rw[Vx2]at h1
 have hk:=hid (Za4 ((b1.block _ (block_lt h0)).trans h0))
 have W1:=hid (b0.trans (b1.mono b0.size))
 replace h1:=hid h1
 have hO:=hid (fun W (h:Rd W (some ⟨w.heap.size,0,none⟩) p.1)=>Ze5 3 (some ⟨w.heap.size,0,none⟩) 32 p.1 W h ⟨by rw[p.2];decide,by decide⟩ (by rw[p.2];decide))
 have hD:sha256 (tagB 3 [p.1])=(keyD p).1:=rfl
 rw[hD]at hO
 simp only[p.2]at hO
 replace hO:=hid hO
 have hsl:=ZaA
 have z1:(((keyD p).1.map bv).toArray).size=32:=by simp[(keyD p).2]
 have o1:=Zay (keyD p).1
 clear h0 b0 b1 hD
 generalize (keyD p).1.map bv=dk at *
 generalize (p.1.map bv).toArray=dp at *
 go_enter Tryd.func63,Tryd.ntmps63
 go_wp2_with ((with_reducible refine Zac rfl 23 rfl z32 Zam ?_))
 refine(hO.out.out _ hk.out).mono ?_
 rintro e w3 ⟨rfl,hb3⟩
 have R3:=hid ((hb3.block _ (block_lt h1.out)).trans h1.out)
 have W3:=hid (W1.out.trans (hb3.mono W1.out.size))
 clear hb3
 go_wp2_with (((with_reducible refine stW 2 4 (w.heap.size+1) 23 z32 ?_ ?_ ?_ ?_ ?_);exact R3.out;(rw[z1];exact Zai);(rw[z1];exact z32_size);exact o1;intro w4 hg4 hb4 hs4))
 refine Vy0 (v:=.agg dk.toArray) ?_ rfl ⟨rfl,?_⟩
 ·exact results_cell_row Tryd.results63 _ _ (w.heap.size+1) 23 _ (0,0) _ rfl hg4 Tryd.underlying23 rfl (by rw[z1];exact Zai)
 ·exact W3.out.grown hb4 W3.out.size (fun g e=>by injection e with e;omega)
def mayA(t:Tr):Bool:=mayT t&&heldP (allT t)
def getA(t:Tr)(k:Dg):Ac:=if mayA t=true then inA (allT t) k else ac0
end Go.Proofs.YtimaoonpgilekaaDoor
