import Derived.Test.YtomhoehlgagiiaaGreatDoorRwX
import Derived.Test.YtomhoehlgagiiaaGreatDoorRefC
import Derived.Test.YtomhoehlgagiiaaGreatDoorStX
import Derived.Test.YtomhoehlgagiiaaGreatDoorTagX
set_option maxRecDepth 100000
set_option linter.all false
namespace Go.Proofs.YtomhoehlgagiiaaGreatDoor
open Go.RowKit
theorem Zkh:Slot Tryz.prog Nat 56 57 (.slice none 0 0) 24 where
 under:=Tryz.underlying56
 info:=by kernel_rfl
 zero:=rfl
 pos:=by decide
theorem ZhI(n:Nat)(w:World)(h2:2≤n)(hn:n≤1000000):
  Calls Tryz.prog 213 #[.int .i64 (n:Int)] w fun e w'=>e=.returned (.int .i64 (firstN n:Int))∧w'=w:=by
 go_enter Tryz.func213,Tryz.ntmps213
 go_wp2
 go_loop [3] (fun p=>∃q:Nat,p=.int .i64 (q:Int)∧(∃ j,q=2 ^ j)∧q<n) (fun p=>n-(intOf p).toNat)
 case atStart=>exact⟨1,rfl,⟨0,rfl⟩,by omega⟩
 case round=>
  obtain⟨q,rfl,⟨j,hj⟩,hq⟩:=hrel
  have hpos:0<q:=by rw[hj];exact Nat.two_pow_pos j
  have hw:IntKind.i64.wrap (2 * (q:Int))=((2 * q:Nat):Int):=by rw[IntWalk.i64_in _ (by omega)];omega
  by_cases hlt:2 * q<n
  ·have hl2:((2 * q:Nat):Int)<(n:Int):=by omega
   replace hj:=hid hj
   go_wp2
   go_round
   case rel=>exact⟨2 * q,rfl,⟨j+1,by rw[hj.out,Nat.pow_succ];omega⟩,hlt⟩
   case measure=>simp[intOf];omega
  ·have hl2:¬((2 * q:Nat):Int)<(n:Int):=by omega
   have hf:q=firstN n:=by rw[hj];exact ZtH h2 (by rw[← hj];exact hq) (by rw[← hj];exact hlt)
   replace hf:=hid hf
   replace hj:=hid hj
   go_wp2
   go_ret
   exact⟨by rw[← hf.out];rfl,rfl⟩
theorem Zpu(a b:Dg):(tagB 8 [a.1,b.1]).length≤100000:=by simp[tagB,partB,Zav,a.2,b.2]
theorem YaW{ls:List (List UInt8)}{a b:Dg}(h:2≤ls.length)(ha:rootR (ls.take (firstN ls.length))=a)(hb:rootR (ls.drop (firstN ls.length))=b):sha256 (tagB 8 [a.1,b.1])=(rootR ls).1:=by
 rw[Zen h,ha,hb]
 rfl
set_option maxHeartbeats 8000000 in
theorem ZqV(A:Option Addr)(c:Nat)(ls:List (List UInt8))(w:World)(ih:∀(A:Option Addr) (c:Nat) (ms:List (List UInt8)) (w:World),ms.length<ls.length→Rds w A ms→ms.length≤c→c≤maxLen→(∀ x∈ms,x.length≤5000)→
   Calls Tryz.prog 147 #[.slice A ms.length c] w fun e w'=>e=.returned (.agg ((rootR ms).1.map bv).toArray)∧Below w.heap.size w w')
  (hr:Rds w A ls) (hc:ls.length≤c) (hm:c≤maxLen) (hx:∀x∈ls,x.length≤5000) (hl:ls.length≤1000000):
  Calls Tryz.prog 147 #[.slice A ls.length c] w fun e w'=>e=.returned (.agg ((rootR ls).1.map bv).toArray)∧Below w.heap.size w w':=by
 have hu:=Tryz.underlying26
 have h0:=hid (Vx0 w (.cells z32 26))
 have W0:=hid (Zad w (.cells z32 26))
 have hr0:=hr.bel W0.out
 obtain⟨rd,hrd⟩:∃d,rootR ls=d:=⟨_,rfl⟩
 rw[hrd]
 have z1:((rd.1.map bv).toArray).size=32:=by simp[rd.2]
 have o1:=Zay rd.1
 match hls:ls,hrd with
 |[],hrd=>
  have hN:=Zmz (w.alloc (.cells z32 26))
  have e1:sha256 [0]=rd.1:=by rw[← hrd];rfl
  rw[e1]at hN
  replace hN:=hid hN
  clear ih hrd hr hr0 e1 hx
  generalize (rd.1.map bv)=dk at *
  go_enter Tryz.func147,Tryz.ntmps147
  go_wp2_with ((with_reducible refine Zac rfl 26 rfl z32 Zam ?_))
  refine hN.out.mono ?_
  rintro e w1 ⟨rfl,hb⟩
  have R1:=hid ((hb.block _ (block_lt h0.out)).trans h0.out)
  have W1:=hid (W0.out.trans (hb.mono W0.out.size))
  clear hb
  go_wp2_with (((with_reducible refine stW 2 9 w.heap.size 26 z32 ?_ ?_ ?_ ?_ ?_);exact R1.out;(rw[z1];exact Zai);(rw[z1];exact z32_size);exact o1;intro w4 hg4 hb4 hs4))
  exact Vy0 (v:=.agg dk.toArray) (results_cell_row Tryz.results147 _ _ w.heap.size 26 _ (0,0) _ rfl hg4 hu rfl (by rw[z1];exact Zai)) rfl ⟨rfl,W1.out.grown hb4 W1.out.size (fun g e=>by injection e with e;omega)⟩
 |[x],hrd=>
  obtain⟨b,o,rfl,hcc⟩:=hr0 (by simp)
  obtain⟨A',c',e,hra,hl1,hl2⟩:=hcc 0 x rfl
  rw[Nat.add_zero]at e
  have hN:=Ze5 7 A' c' x (w.alloc (.cells z32 26)) hra ⟨hl1,hl2⟩ (hx x (List.mem_singleton.2 rfl))
  have e1:sha256 (tagB 7 [x])=rd.1:=by rw[← hrd];rfl
  rw[e1]at hN
  replace hN:=hid hN
  clear ih hrd hr hcc e1 hx hra
  generalize (rd.1.map bv)=dk at *
  go_enter Tryz.func147,Tryz.ntmps147
  go_wp2_with ((with_reducible refine Zac rfl 26 rfl z32 Zam ?_))
  refine hN.out.mono ?_
  rintro e w1 ⟨rfl,hb⟩
  have R1:=hid ((hb.block _ (block_lt h0.out)).trans h0.out)
  have W1:=hid (W0.out.trans (hb.mono W0.out.size))
  clear hb
  go_wp2_with (((with_reducible refine stW 2 16 w.heap.size 26 z32 ?_ ?_ ?_ ?_ ?_);exact R1.out;(rw[z1];exact Zai);(rw[z1];exact z32_size);exact o1;intro w4 hg4 hb4 hs4))
  exact Vy0 (v:=.agg dk.toArray) (results_cell_row Tryz.results147 _ _ w.heap.size 26 _ (0,0) _ rfl hg4 hu rfl (by rw[z1];exact Zai)) rfl ⟨rfl,W1.out.grown hb4 W1.out.size (fun g e=>by injection e with e;omega)⟩
 |x::y::m,hrd=>
  have h2:2≤(x::y::m).length:=by simp
  rw[← hls]at h2 ih hrd hr hr0 hc hl hx ⊢
  have f1:=Zba ls.length
  have f2:=Zbm h2
  have hF:=hid (fun W=>ZhI ls.length W h2 hl)
  have ht:(ls.take (firstN ls.length)).length=firstN ls.length:=by rw[List.length_take];omega
  have hd:(ls.drop (firstN ls.length)).length=ls.length-firstN ls.length:=List.length_drop
  have hI1:=fun W (hW:Rds W A ls)=>ih A c (ls.take (firstN ls.length)) W (by omega) (hW.take _) (by omega) hm (fun x h=>hx x (List.take_subset _ _ h))
  have hI2:=fun W (hW:Rds W A ls)=>ih (cutA A c (firstN ls.length) 1) (c-firstN ls.length) (ls.drop (firstN ls.length)) W (by omega) (hW.cutA _ c (by omega) hc) (by omega) (by omega) (fun x h=>hx x (List.drop_subset _ _ h))
  rw[ht]at hI1
  rw[hd]at hI2
  obtain⟨da,hda⟩:∃d,rootR (ls.take (firstN ls.length))=d:=⟨_,rfl⟩
  obtain⟨db,hdb⟩:∃d,rootR (ls.drop (firstN ls.length))=d:=⟨_,rfl⟩
  have e1:sha256 (tagB 8 [da.1,db.1])=rd.1:=(YaW h2 hda hdb).trans (congrArg (·.1) hrd)
  rw[hda]at hI1
  rw[hdb]at hI2
  have su:=hid (fun W=>Zcl Zkh A ls.length c (firstN ls.length) (by omega) W)
  have sf:=hid (fun W=>Zc7 Zkh A ls.length c (firstN ls.length) (by omega) W)
  have hT:=hid (fun W g1 g2 (h1:Rd W (some ⟨g1,0,none⟩) da.1) (h2:Rd W (some ⟨g2,0,none⟩) db.1)=>ZjB 8 (some ⟨g1,0,none⟩) (some ⟨g2,0,none⟩) 32 32 da.1 db.1 W h1 h2 ⟨by rw[da.2];exact Vx8 _,by decide⟩ ⟨by rw[db.2];exact Vx8 _,by decide⟩ (Zpu da db))
  rw[e1,da.2,db.2]at hT
  have zA:((da.1.map bv).toArray).size=32:=by simp[da.2]
  have oA:=Zay da.1
  have zB:((db.1.map bv).toArray).size=32:=by simp[db.2]
  have oB:=Zay db.1
  have hsl:=ZaA
  replace hI1:=hid hI1
  replace hI2:=hid hI2
  replace hr0:=hid hr0
  have q0:((ls.length:Int)==0)=false:=by rw[beq_eq_false_iff_ne];omega
  have q1:((ls.length:Int)==1)=false:=by rw[beq_eq_false_iff_ne];omega
  clear ih hr hx hda hdb hrd e1 ht hd hls
  generalize firstN ls.length=fn at *
  go_enter Tryz.func147,Tryz.ntmps147
  go_wp2_with ((with_reducible refine Zac rfl 26 rfl z32 Zam ?_))
  refine(hF.out _).mono ?_
  rintro e w1 ⟨rfl,hw1⟩
  generalize w.alloc (.cells z32 26)=w0 at *
  subst hw1
  go_wp2
  refine rgB fun hHeld=>?_
  refine' tkW 0 1 ?_
  simp only[sQ]
  refine' tkH 2 rfl (Yb2 (by rfl) _ _ _ _ _ rfl _ _ _ _ _ (su.out) rfl rfl rfl rfl) ?_
  simp only[sQ]
  refine' tkW 4 5 ?_
  simp only[sQ]
  refine' tkH 6 rfl (Yb2 (by rfl) _ _ _ _ _ rfl _ _ _ _ _ (sf.out) rfl rfl rfl rfl) ?_
  simp only[sQ]
  apply shareK (T:=fun (K:World→Nat→Nat→Prop)=>∀(wq:World) (g8 g9:Nat),Below w1.heap.size w1 wq→w1.heap.size≤g8→w1.heap.size≤g9→Hid (g8≠g9)→wq.heap[g8]? =some (.cells z32 26 (0,0))→wq.heap[g9]? =some (.cells z32 26 (0,0))→K wq g8 g9)
  intro M6
  apply shareK (T:=fun (K:World→Nat→Nat→Prop)=>∀(wq:World) (g8 g9:Nat),Below w1.heap.size w1 wq→w1.heap.size≤g8→w1.heap.size≤g9→Hid (g8≠g9)→wq.heap[g8]? =some (.cells z32 26 (0,0))→wq.heap[g9]? =some (.cells z32 26 (0,0))→K wq g8 g9)
  intro M5
  apply shareK (T:=fun (K:World→Nat→Prop)=>∀(wq:World) (g9:Nat),Below w1.heap.size w1 wq→w1.heap.size≤g9→wq.heap[g9]? =some (.cells z32 26 (0,0))→K wq g9)
  intro M4
  apply shareK (T:=fun (K:World→Nat→Prop)=>∀(wq:World) (g8:Nat),Below w1.heap.size w1 wq→w1.heap.size≤g8→wq.heap[g8]? =some (.cells z32 26 (0,0))→K wq g8)
  intro M3
  apply shareK (T:=fun (K:World→Nat→Nat→Prop)=>∀(wq:World) (g8 g9:Nat),Below w1.heap.size w1 wq→w1.heap.size≤g8→w1.heap.size≤g9→Hid (g8≠g9)→wq.heap[g8]? =some (.cells z32 26 (0,0))→wq.heap[g9]? =some (.cells z32 26 (0,0))→K wq g8 g9)
  intro M2
  apply shareK (T:=fun (K:World→Nat→Prop)=>∀(wq:World) (g9:Nat),Below w1.heap.size w1 wq→w1.heap.size≤g9→wq.heap[g9]? =some (.cells z32 26 (0,0))→K wq g9)
  intro M1
  apply shareK (T:=fun (K:World→Nat→Prop)=>∀(wq:World) (g8:Nat),Below w1.heap.size w1 wq→w1.heap.size≤g8→wq.heap[g8]? =some (.cells z32 26 (0,0))→K wq g8)
  intro M0
  ·skip
   refine rdH3 3 8 9 rfl rfl rfl (fun K hK=>?_) (fun K hK=>?_) (fun K hK=>?_)
   ·skip
    refine clB hK (hI1.out _ (hr0.out.bel hHeld)) fun v3 hB hHeld=>?_
    try have e8:=(hB.block _ (block_lt e8)).trans e8
    try have e9:=(hB.block _ (block_lt e9)).trans e9
    clear hK K
    try simp only[sQ]
    refine rdH3 7 8 9 rfl rfl rfl (fun K hK=>?_) (fun K hK=>?_) (fun K hK=>?_)
    ·skip
     refine clB hK (hI2.out _ (hr0.out.bel hHeld)) fun v7 hB hHeld=>?_
     try have e8:=(hB.block _ (block_lt e8)).trans e8
     try have e9:=(hB.block _ (block_lt e9)).trans e9
     clear hK K
     try simp only[sQ]
     refine rdH2 8 9 rfl rfl (fun K hK=>?_) (fun K hK=>?_)
     ·skip
      refine Zar rfl 26 rfl z32 Zam ?_
      intro g8 w8 b8 e8 hB
      have m8:=Vx1 hHeld.size b8
      try have n89:=hid (show g8≠g9 from by have:=block_lt e9;omega)
      try have e9:=(hB.block _ (block_lt e9)).trans e9
      refine kB hK hHeld hB fun hHeld=>?_
      clear hK K
      try simp only[sQ]
      exact M3 _ g8 hHeld m8 e8
     ·skip
      refine Zar rfl 26 rfl z32 Zam ?_
      intro g9 w9 b9 e9 hB
      have m9:=Vx1 hHeld.size b9
      try have n89:=hid (show g8≠g9 from by have:=block_lt e8;omega)
      try have e8:=(hB.block _ (block_lt e8)).trans e8
      refine kB hK hHeld hB fun hHeld=>?_
      clear hK K
      try simp only[sQ]
      exact M4 _ g9 hHeld m9 e9
    ·skip
     refine Zar rfl 26 rfl z32 Zam ?_
     intro g8 w8 b8 e8 hB
     have m8:=Vx1 hHeld.size b8
     try have n89:=hid (show g8≠g9 from by have:=block_lt e9;omega)
     try have e9:=(hB.block _ (block_lt e9)).trans e9
     refine kB hK hHeld hB fun hHeld=>?_
     clear hK K
     try simp only[sQ]
     exact M0 _ g8 hHeld m8 e8
    ·skip
     refine Zar rfl 26 rfl z32 Zam ?_
     intro g9 w9 b9 e9 hB
     have m9:=Vx1 hHeld.size b9
     try have n89:=hid (show g8≠g9 from by have:=block_lt e8;omega)
     try have e8:=(hB.block _ (block_lt e8)).trans e8
     refine kB hK hHeld hB fun hHeld=>?_
     clear hK K
     try simp only[sQ]
     exact M1 _ g9 hHeld m9 e9
   ·skip
    refine Zar rfl 26 rfl z32 Zam ?_
    intro g8 w8 b8 e8 hB
    have m8:=Vx1 hHeld.size b8
    try have n89:=hid (show g8≠g9 from by have:=block_lt e9;omega)
    try have e9:=(hB.block _ (block_lt e9)).trans e9
    refine kB hK hHeld hB fun hHeld=>?_
    clear hK K
    try simp only[sQ]
    refine rdH2 3 9 rfl rfl (fun K hK=>?_) (fun K hK=>?_)
    ·skip
     refine clB hK (hI1.out _ (hr0.out.bel hHeld)) fun v3 hB hHeld=>?_
     try have e8:=(hB.block _ (block_lt e8)).trans e8
     try have e9:=(hB.block _ (block_lt e9)).trans e9
     clear hK K
     try simp only[sQ]
     exact M0 _ g8 hHeld m8 e8
    ·skip
     refine Zar rfl 26 rfl z32 Zam ?_
     intro g9 w9 b9 e9 hB
     have m9:=Vx1 hHeld.size b9
     try have n89:=hid (show g8≠g9 from by have:=block_lt e8;omega)
     try have e8:=(hB.block _ (block_lt e8)).trans e8
     refine kB hK hHeld hB fun hHeld=>?_
     clear hK K
     try simp only[sQ]
     exact M2 _ g8 g9 hHeld m8 m9 n89 e8 e9
   ·skip
    refine Zar rfl 26 rfl z32 Zam ?_
    intro g9 w9 b9 e9 hB
    have m9:=Vx1 hHeld.size b9
    try have n89:=hid (show g8≠g9 from by have:=block_lt e8;omega)
    try have e8:=(hB.block _ (block_lt e8)).trans e8
    refine kB hK hHeld hB fun hHeld=>?_
    clear hK K
    try simp only[sQ]
    refine rdH2 3 8 rfl rfl (fun K hK=>?_) (fun K hK=>?_)
    ·skip
     refine clB hK (hI1.out _ (hr0.out.bel hHeld)) fun v3 hB hHeld=>?_
     try have e8:=(hB.block _ (block_lt e8)).trans e8
     try have e9:=(hB.block _ (block_lt e9)).trans e9
     clear hK K
     try simp only[sQ]
     exact M1 _ g9 hHeld m9 e9
    ·skip
     refine Zar rfl 26 rfl z32 Zam ?_
     intro g8 w8 b8 e8 hB
     have m8:=Vx1 hHeld.size b8
     try have n89:=hid (show g8≠g9 from by have:=block_lt e9;omega)
     try have e9:=(hB.block _ (block_lt e9)).trans e9
     refine kB hK hHeld hB fun hHeld=>?_
     clear hK K
     try simp only[sQ]
     exact M2 _ g8 g9 hHeld m8 m9 n89 e8 e9
  ·skip
   intro wq g8 hHeld m8 e8
   refine rdH2 7 9 rfl rfl (fun K hK=>?_) (fun K hK=>?_)
   ·skip
    refine clB hK (hI2.out _ (hr0.out.bel hHeld)) fun v7 hB hHeld=>?_
    try have e8:=(hB.block _ (block_lt e8)).trans e8
    try have e9:=(hB.block _ (block_lt e9)).trans e9
    clear hK K
    try simp only[sQ]
    exact M3 _ g8 hHeld m8 e8
   ·skip
    refine Zar rfl 26 rfl z32 Zam ?_
    intro g9 w9 b9 e9 hB
    have m9:=Vx1 hHeld.size b9
    try have n89:=hid (show g8≠g9 from by have:=block_lt e8;omega)
    try have e8:=(hB.block _ (block_lt e8)).trans e8
    refine kB hK hHeld hB fun hHeld=>?_
    clear hK K
    try simp only[sQ]
    exact M5 _ g8 g9 hHeld m8 m9 n89 e8 e9
  ·skip
   intro wq g9 hHeld m9 e9
   refine rdH2 7 8 rfl rfl (fun K hK=>?_) (fun K hK=>?_)
   ·skip
    refine clB hK (hI2.out _ (hr0.out.bel hHeld)) fun v7 hB hHeld=>?_
    try have e8:=(hB.block _ (block_lt e8)).trans e8
    try have e9:=(hB.block _ (block_lt e9)).trans e9
    clear hK K
    try simp only[sQ]
    exact M4 _ g9 hHeld m9 e9
   ·skip
    refine Zar rfl 26 rfl z32 Zam ?_
    intro g8 w8 b8 e8 hB
    have m8:=Vx1 hHeld.size b8
    try have n89:=hid (show g8≠g9 from by have:=block_lt e9;omega)
    try have e9:=(hB.block _ (block_lt e9)).trans e9
    refine kB hK hHeld hB fun hHeld=>?_
    clear hK K
    try simp only[sQ]
    exact M5 _ g8 g9 hHeld m8 m9 n89 e8 e9
  ·skip
   intro wq g8 g9 hHeld m8 m9 n89 e8 e9
   refine rdC 3 rfl (hI1.out _ (hr0.out.bel hHeld)) fun v3 hB hHeld=>?_
   try have e8:=(hB.block _ (block_lt e8)).trans e8
   try have e9:=(hB.block _ (block_lt e9)).trans e9
   try simp only[sQ]
   exact M5 _ g8 g9 hHeld m8 m9 n89 e8 e9
  ·skip
   intro wq g8 hHeld m8 e8
   refine rdH 9 rfl fun K hK=>?_
   refine Zar rfl 26 rfl z32 Zam ?_
   intro g9 w9 b9 e9 hB
   have m9:=Vx1 hHeld.size b9
   try have n89:=hid (show g8≠g9 from by have:=block_lt e8;omega)
   try have e8:=(hB.block _ (block_lt e8)).trans e8
   refine kB hK hHeld hB fun hHeld=>?_
   clear hK K
   try simp only[sQ]
   exact M6 _ g8 g9 hHeld m8 m9 n89 e8 e9
  ·skip
   intro wq g9 hHeld m9 e9
   refine rdH 8 rfl fun K hK=>?_
   refine Zar rfl 26 rfl z32 Zam ?_
   intro g8 w8 b8 e8 hB
   have m8:=Vx1 hHeld.size b8
   try have n89:=hid (show g8≠g9 from by have:=block_lt e9;omega)
   try have e9:=(hB.block _ (block_lt e9)).trans e9
   refine kB hK hHeld hB fun hHeld=>?_
   clear hK K
   try simp only[sQ]
   exact M6 _ g8 g9 hHeld m8 m9 n89 e8 e9
  ·skip
   intro wq g8 g9 hHeld m8 m9 n89 e8 e9
   refine rdC 7 rfl (hI2.out _ (hr0.out.bel hHeld)) fun v7 hB hHeld=>?_
   try have e8:=(hB.block _ (block_lt e8)).trans e8
   try have e9:=(hB.block _ (block_lt e9)).trans e9
   try simp only[sQ]
   exact M6 _ g8 g9 hHeld m8 m9 n89 e8 e9
  intro wq g8 g9 hHeld m8 m9 n89 e8 e9
  refine rdH 10 rfl fun K hK=>?_
  refine Zaj rfl 26 (.tmp 4) (.tmp 23) rfl g8 _ rfl rfl 26 z32 e8 (by rw[zA];exact Zai) (by rw[zA];exact z32_size) oA ?_
  intro w10 d8 hG
  have e9:=(hG.block _ (block_lt e9) (by intro q;injection q with q;exact n89.out q.symm)).trans e9
  refine hK.out _ _ (hHeld.grown hG hHeld.size (by intro k hk;injection hk with hk;omega)) fun hHeld=>?_
  clear hK K
  try simp only[sQ]
  refine rdH 11 rfl fun K hK=>?_
  refine Zaj rfl 26 (.tmp 5) (.tmp 27) rfl g9 _ rfl rfl 26 z32 e9 (by rw[zB];exact Zai) (by rw[zB];exact z32_size) oB ?_
  intro w11 d9 hG
  have d8:=(hG.block _ (block_lt d8) (by intro q;injection q with q;exact n89.out q)).trans d8
  refine hK.out _ _ (hHeld.grown hG hHeld.size (by intro k hk;injection hk with hk;omega)) fun hHeld=>?_
  clear hK K
  try simp only[sQ]
  refine dnN ?_
  have k8:=hid (Za4 (l:=da.1) d8)
  have k9:=hid (Za4 (l:=db.1) d9)
  have R2:=hid ((hHeld.block _ (block_lt h0.out)).trans h0.out)
  have W2:=hid (W0.out.trans (hHeld.mono W0.out.size))
  go_wp2
  refine wp_region_noPanic ?_
  refine wp_region_held_drew (S:=fun W'=>Below w.heap.size w W') (by kernel_rfl) ?_ (fun hHeld=>?_)
  ·exact W2.out.trans ((Zao w11).mono W2.out.size)
  refine' tkH 0 rfl (Yb2 (by rfl) _ _ _ _ _ rfl _ _ _ _ _ (fun W=>ZaA _ W) rfl rfl rfl rfl) ?_
  simp only[sQ]
  refine' tkH 1 rfl (Yb2 (by rfl) _ _ _ _ _ rfl _ _ _ _ _ (fun W=>ZaA _ W) rfl rfl rfl rfl) ?_
  simp only[sQ]
  refine rdC 2 rfl (hT.out w11.drew g8 g9 k8.out k9.out) fun v12 hB hHeld=>?_
  have R3:=hid ((hB.block _ (block_lt (show w11.drew.heap[w.heap.size]? =_ from R2.out))).trans R2.out)
  try simp only[sQ]
  refine rdH 3 rfl fun K hK=>?_
  refine Zaj rfl 26 (.tmp 2) (.tmp 30) rfl w.heap.size _ rfl rfl 26 z32 R3.out (by rw[z1];exact Zai) (by rw[z1];exact z32_size) o1 ?_
  intro w13 d2 hG
  refine hK.out _ _ (hHeld.grown hG hHeld.size (fun g e=>by injection e with e;omega)) fun hHeld=>?_
  clear hK K
  try simp only[sQ]
  refine dnN ?_
  go_wp2
  exact Vy0 (results_cell_row Tryz.results147 _ _ w.heap.size 26 _ (0,0) _ rfl d2 hu rfl (by rw[z1];exact Zai)) rfl ⟨rfl,hHeld⟩
theorem ZlV(k:Nat):∀(A:Option Addr) (c:Nat) (ls:List (List UInt8)) (w:World),ls.length≤k→Rds w A ls→ls.length≤c→c≤maxLen→(∀ x∈ls,x.length≤5000)→ls.length≤1000000→
  Calls Tryz.prog 147 #[.slice A ls.length c] w fun e w'=>e=.returned (.agg ((rootR ls).1.map bv).toArray)∧Below w.heap.size w w':=by
 induction k with
 |zero=>exact fun A c ls w hk hr hc hm hx hl=>ZqV A c ls w (fun _ _ _ _ h=>by omega) hr hc hm hx hl
 |succ k ih=>exact fun A c ls w hk hr hc hm hx hl=>ZqV A c ls w (fun A c ms w h hr hc hm hx=>ih A c ms w (by omega) hr hc hm hx (by omega)) hr hc hm hx hl
def z0R:Dg:=⟨List.replicate 32 0,rfl⟩
def rootRL(ls:List (List UInt8)):Dg:=if listR ls=true then rootR ls else z0R
theorem ZlG{fn:Func}{p u:Tmp}(h:fn.results=#[.cell p 26,.tmp u])(tmps:Array Value)(w:World)(g:Nat)(d:Dg)(e1:tmps.getD p undef=.pointer (some ⟨g,0,none⟩))
  (hg:w.heap[g]? =some (.cells (d.1.map bv).toArray 26 (0,0))):(results fn tmps).run Tryz.prog w=.ok (.tuple #[.agg (d.1.map bv).toArray,tmps.getD u undef]) w:=by
 have h2:=run_loadVar_mid (P:=Tryz.prog) w g 0 26 (d.1.map bv) _ (Zae hg) Tryz.underlying26 rfl (by rw[Vx6,d.2];exact Zai)
 rw[results_cell_tmp h,e1]
 simp only[asAddr,Sem.run_pure,Result.andThen_ok,h2]
theorem ZmS:Tryz.prog.built 26 []=some z32:=by kernel_rfl
theorem Zm7:(Tryz.prog.info? 57).map (fun i=>(i.zero,i.size,i.bytes))=some (some (.slice none 0 0),1,24):=by kernel_rfl
theorem Zie:Tryz.prog.underlying 56=some (.slice 57):=Tryz.underlying56
end Go.Proofs.YtomhoehlgagiiaaGreatDoor
