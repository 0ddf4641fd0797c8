import Derived.Test.YtimaoonpgilekaaDoorRf10
import Derived.Test.YtimaoonpgilekaaDoorTagX
set_option linter.all false
namespace Go.Proofs.YtimaoonpgilekaaDoor
open Go.RowKit
set_option maxRecDepth 100000
theorem YgY(p:Dg)(g:Nat)(w:World)(h:Rd w (some ⟨g,0,none⟩) p.1)(hT:Tab w):
  Calls Tryd.prog 33 #[.int .u8 3,.slice (some ⟨w.heap.size,0,none⟩) 1 1] (w.alloc (.cells #[.slice (some ⟨g,0,none⟩) 32 32] 68)) fun e w'=>e=.returned (.agg ((keyD p).1.map bv).toArray)∧Below w.heap.size w w':=by
 have hR:=ZgF w (some ⟨g,0,none⟩) 32 p.1 68 h ⟨by rw[p.2];exact Vx8 _,by decide⟩
 rw[p.2]at hR
 refine(Zcx 3 (some ⟨w.heap.size,0,none⟩) 1 1 [p.1] _ hR rfl (by simp) (by unfold tagB partB;simp[p.2,Zav]) (hT.bel (Zad w _) hT.low)).mono ?_
 rintro e w' ⟨rfl,hb⟩
 exact⟨rfl,(Zad w _).trans (hb.mono (Zad w (.cells #[.slice (some ⟨g,0,none⟩) 32 32] 68)).size)⟩
set_option maxHeartbeats 1000000 in
theorem ZfF(p:Dg)(w:World)(hT:Tab w):Calls Tryd.prog 32 #[.agg (p.1.map bv).toArray] w fun e w'=>e=.returned (.agg ((keyD p).1.map bv).toArray)∧Below w.heap.size w w':=by
 have h0:=Vx0 w (.cells (p.1.map bv).toArray 23)
 have b0:=Zad w (.cells (p.1.map bv).toArray 23)
 have h1:=Vx0 (w.alloc (.cells (p.1.map bv).toArray 23)) (.cells z32 23)
 have b1:=Zad (w.alloc (.cells (p.1.map bv).toArray 23)) (.cells z32 23)
 rw[Vx2]at h1
 have hk:=Za4 ((b1.block _ (block_lt h0)).trans h0)
 have W1:=hid (b0.trans (b1.mono b0.size))
 replace h1:=hid h1
 have hO:=hid (YgY p w.heap.size _ hk (hT.bel W1.out hT.low))
 have hsl:=ZaA
 simp only[Vx2]at hO
 have z1:(((keyD p).1.map bv).toArray).size=32:=by simp[(keyD p).2]
 have o1:=Zay (keyD p).1
 clear h0 b0 b1 hT hk
 generalize (keyD p).1.map bv=dk at *
 generalize (p.1.map bv).toArray=dp at *
 go_enter Tryd.func32,Tryd.ntmps32
 go_wp2_with ((with_reducible refine Zac rfl 23 rfl z32 Zam ?_))
 generalize (w.alloc (.cells dp 23)).alloc (.cells z32 23)=w2 at *
 refine hO.out.mono ?_
 rintro e w3 ⟨rfl,hb3⟩
 have R3:=hid ((hb3.block _ (by omega)).trans h1.out)
 have W3:=hid (W1.out.trans (hb3.mono (by omega)))
 clear hb3
 go_wp2_with (((with_reducible refine stW 2 5 (w.heap.size+1) 23 z32 ?_ ?_ ?_ ?_ ?_);exact R3.out;(rw[z1];exact Zai);(rw[z1];exact z32_size);exact o1;intro w4 hg4 hb4 hs4))
 refine Vy0 (v:=.agg dk.toArray) ?_ rfl ⟨rfl,?_⟩
 ·exact results_cell_row Tryd.results32 _ _ (w.heap.size+1) 23 _ (0,0) _ rfl hg4 Tryd.underlying23 rfl (by rw[z1];exact Zai)
 ·exact W3.out.grown hb4 W3.out.size (fun g e=>by injection e with e;omega)
end Go.Proofs.YtimaoonpgilekaaDoor
