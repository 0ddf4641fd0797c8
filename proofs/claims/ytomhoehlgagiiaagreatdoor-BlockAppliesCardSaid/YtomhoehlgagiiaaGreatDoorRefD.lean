import Derived.Test.YtomhoehlgagiiaaGreatDoorBits
set_option maxRecDepth 100000
set_option linter.all false
set_option maxHeartbeats 1600000
namespace Go.Proofs.YtomhoehlgagiiaaGreatDoor
open Go.RowKit
set_option maxRecDepth 100000 in
theorem ZiL(l:List UInt8)(i:Nat)(w:World)(hl:l.length=32)(hi:i<256):
  Calls Tryz.prog 212 #[.agg (l.map bv).toArray,.int .i64 (i:Int)] w fun r w'=>r=.returned (.int .u8 (kb l i:Int))∧Below w.heap.size w w':=by
 obtain⟨c,hc⟩:∃c,(l.getD (i / 8) 0).toNat=c:=⟨_,rfl⟩
 have hcl:c<256:=by have:=(l.getD (i / 8) 0).toNat_lt;omega
 have hcell:=Yin (l.map bv).toArray 26 w (i / 8)
 rw[Yio l (i / 8) (by omega),hc]at hcell
 have hk:kb l i=c / 2 ^ (7-i % 8) % 2:=by unfold kb;rw[hc]
 rw[hk]
 clear hk hc
 obtain⟨ds,hds⟩:∃ds,ds=(l.map bv).toArray:=⟨_,rfl⟩
 have hsz:ds.size=32:=by rw[hds];simp[hl]
 rw[← hds]at hcell ⊢
 replace hds:=hid hds
 have q1:=YbB i
 have q2:=YhI i
 have q3:i / 8<32:=by omega
 have q4:i % 8<8:=Nat.mod_lt _ (by omega)
 generalize i / 8=q at *
 generalize i % 8=p at *
 go_enter Tryz.func212,Tryz.ntmps212
 go_wp2
 go_loopw [5,6] (fun v j wr=>∃k:Nat,k≤7-p∧v=.int .u8 ((c / 2 ^ k:Nat):Int)∧j=.int .i64 ((7-k:Nat):Int)∧Below w.heap.size w wr) (fun _ j _=>(intOf j).toNat)
 case atStart=>exact⟨0,Nat.zero_le _,by simp,rfl,Zad _ _⟩
 case round=>
  obtain⟨k,hk,rfl,rfl,hb⟩:=hrel
  have hx:c / 2 ^ k<256:=Nat.lt_of_le_of_lt (Nat.div_le_self _ _) hcl
  have hs:c / 2 ^ (k+1)=c / 2 ^ k / 2:=by rw[Nat.pow_succ,←Nat.div_div_eq_div_mul]
  have hy:7-p=k→c / 2 ^ (7-p) % 2=c / 2 ^ k % 2:=fun h=>by rw[h]
  by_cases hlt:k<7-p
  ·have d2:=Yki (c / 2 ^ k)
   replace hs:=hid hs
   generalize c / 2 ^ k=x at *
   clear hy
   go_wp2
   go_roundw
   case rel=>exact⟨k+1,by omega,by rw[hs.out];simp,by congr 1;omega,hb⟩
   case measure=>simp[intOf];omega
  ·have hy2:=hid (hy (by omega))
   have d2:=Ykj (c / 2 ^ k)
   clear hs hy
   generalize c / 2 ^ k=x at *
   go_wp2
   go_ret
   rw[hy2.out]
   exact⟨by simp,hb⟩
set_option maxRecDepth 100000 in
theorem Zi3(l m:List UInt8)(w:World)(hl:l.length=32)(hm:m.length=32):
  Calls Tryz.prog 150 #[.agg (l.map bv).toArray,.agg (m.map bv).toArray] w fun r w'=>r=.returned (.int .i64 (shared l m:Int))∧Below w.heap.size w w':=by
 obtain⟨ds,hds⟩:∃ds,ds=(l.map bv).toArray:=⟨_,rfl⟩
 have hsz:ds.size=32:=by rw[hds];simp[hl]
 obtain⟨es,hes⟩:∃es,es=(m.map bv).toArray:=⟨_,rfl⟩
 have hsy:es.size=32:=by rw[hes];simp[hm]
 have hd1:=Vx0 w (.cells ds 26)
 have hd2:=Vx0 (w.alloc (.cells ds 26)) (.cells es 26)
 have hd3:=(Below.heap_alloc (w.alloc (.cells ds 26)) (.cells es 26) w.heap.size (by simp)).trans hd1
 rw[← hds,←hes]
 replace hds:=hid hds
 replace hes:=hid hes
 have W2:=Zag (Zad w (.cells ds 26)) (Zad _ (.cells es 26))
 go_enter Tryz.func150,Tryz.ntmps150
 go_wp2
 generalize ((w.alloc (.cells ds 26)).alloc (.cells es 26))=W0 at *
 simp only[Vx2]at hd2
 clear hd1
 go_loopw [5] (fun j wr=>∃n:Nat,n≤shared l m∧j=.int .i64 (n:Int)∧Below w.heap.size w wr∧wr.rangeAt w.heap.size 0 (l.map bv)∧wr.rangeAt (w.heap.size+1) 0 (m.map bv)) (fun j _=>256-(intOf j).toNat)
 case atStart=>exact⟨0,Nat.zero_le _,rfl,W2,Zae (by rw[← hds.out];exact hd3),Zae (by rw[← hes.out];exact hd2)⟩
 case round=>
  obtain⟨n,hn,rfl,hb,r1,r2⟩:=hrel
  have hle:=Zey l m
  have hu:=Tryz.underlying26
  have i0:(Tryz.prog.info? 26).map (·.size)=some (l.map bv).length:=by rw[Vx6,hl];exact Zai
  have i1:(Tryz.prog.info? 26).map (·.size)=some (m.map bv).length:=by rw[Vx6,hm];exact Zai
  by_cases hlt:n<256
  ·have hn1:(n:Int)<256:=by omega
   have hq:((kb l n:Int)==(kb m n:Int))=decide (n<shared l m):=by
    by_cases h:n<shared l m
    ·rw[Zb5 h,Vy2 h];simp
    ·have e:n=shared l m:=by omega
     have hne:=ZdX (show shared l m<256 by omega)
     rw[Vy1 h,e,beq_eq_false_iff_ne]
     omega
   go_wp2
   refine wp_region_noPanic ?_
   refine wp_region_held_drew (S:=fun w'=>w'.rangeAt w.heap.size 0 (l.map bv)∧w'.rangeAt (w.heap.size+1) 0 (m.map bv)∧Below w.heap.size w w') (by kernel_rfl) ?_ (fun hHeld=>?_)
   ·exact⟨r1,r2,hb.drew⟩
   refine' tkL 0 ?_ rfl ?_ ?_
   rotate_left
   ·intro w hSw
    go_simp
    first|done|(with_reducible rfl)
   try simp only[sQ]
   refine' tkL 1 ?_ rfl ?_ ?_
   rotate_left
   ·intro w hSw
    go_simp
    first|done|(with_reducible rfl)
   try simp only[sQ]
   refine' tkL 2 ?_ rfl ?_ ?_
   rotate_left
   ·intro w hSw
    go_simp
    first|done|(with_reducible rfl)
   try simp only[sQ]
   refine' tkM 3 rfl (fun _ h=>h.1) hu i0 ?_
   simp only[sQ]
   refine' tkL 4 ?_ rfl ?_ ?_
   rotate_left
   ·intro w hSw
    go_simp
    first|done|(with_reducible rfl)
   try simp only[sQ]
   refine' tkM 6 rfl (fun _ h=>h.2.1) hu i1 ?_
   simp only[sQ]
   refine' tkL 7 ?_ rfl ?_ ?_
   rotate_left
   ·intro w hSw
    go_simp
    first|done|(with_reducible rfl)
   try simp only[sQ]
   refine rdH 5 rfl fun K hK=>?_
   go_simp
   refine(ZiL l n _ hl (by omega)).mono ?_
   rintro e7 w7 ⟨rfl,hB⟩
   go_wp2_with fail
   refine hK.out _ _ (⟨Zal hB hHeld.1,Zal hB hHeld.2.1,hHeld.2.2.trans (hB.mono hHeld.2.2.size)⟩) fun hHeld=>?_
   clear hK K
   try simp only[sQ]
   refine rdH 8 rfl fun K hK=>?_
   go_simp
   refine(ZiL m n _ hm (by omega)).mono ?_
   rintro e7 w7 ⟨rfl,hB⟩
   go_wp2_with fail
   refine hK.out _ _ (⟨Zal hB hHeld.1,Zal hB hHeld.2.1,hHeld.2.2.trans (hB.mono hHeld.2.2.size)⟩) fun hHeld=>?_
   clear hK K
   try simp only[sQ]
   refine' tkL 9 ?_ rfl ?_ ?_
   rotate_left
   ·intro w hSw
    go_simp
    first|done|(with_reducible rfl)
   try simp only[sQ]
   refine' tkL 10 ?_ rfl ?_ ?_
   rotate_left
   ·intro w hSw
    go_simp
    first|done|(with_reducible rfl)
   try simp only[sQ]
   refine dnN ?_
   by_cases h:n<shared l m
   ·rw[Vy2 h]
    go_wp2
    go_roundw
    case rel=>exact⟨n+1,by omega,by go_num,hHeld.2.2,hHeld.1,hHeld.2.1⟩
    case measure=>simp[intOf];omega
   ·rw[Vy1 h]
    have e:shared l m=n:=by omega
    go_wp2
    go_ret
    exact⟨by rw[e];rfl,hHeld.2.2⟩
  ·obtain rfl:n=256:=by omega
   have he:shared l m=256:=by omega
   go_wp2
   refine wp_region_noPanic ?_
   refine wp_region_held_drew (S:=fun w'=>w'.rangeAt w.heap.size 0 (l.map bv)∧w'.rangeAt (w.heap.size+1) 0 (m.map bv)∧Below w.heap.size w w') (by kernel_rfl) ?_ (fun hHeld=>?_)
   ·exact⟨r1,r2,hb.drew⟩
   refine' tkL 0 ?_ rfl ?_ ?_
   rotate_left
   ·intro w hSw
    go_simp
    first|done|(with_reducible rfl)
   try simp only[sQ]
   refine' tkL 1 ?_ rfl ?_ ?_
   rotate_left
   ·intro w hSw
    go_simp
    first|done|(with_reducible rfl)
   try simp only[sQ]
   refine' tkL 2 ?_ rfl ?_ ?_
   rotate_left
   ·intro w hSw
    go_simp
    first|done|(with_reducible rfl)
   try simp only[sQ]
   refine' tkW 3 4 ?_
   refine' tkW 5 6 ?_
   simp only[sQ]
   refine' tkW 7 8 ?_
   refine' tkR 9 rfl ?_
   simp only[sQ]
   refine' tkL 10 ?_ rfl ?_ ?_
   rotate_left
   ·intro w hSw
    go_simp
    first|done|(with_reducible rfl)
   try simp only[sQ]
   refine dnN ?_
   go_wp2
   go_ret
   exact⟨by rw[he];rfl,hHeld.2.2⟩
set_option maxRecDepth 100000 in
theorem Zod(l m:List UInt8)(w:World)(hl:l.length=32)(hm:m.length=32):
  Calls Tryz.prog 232 #[.agg (l.map bv).toArray,.agg (m.map bv).toArray] w fun r w'=>r=.returned (.bool (ahead l m))∧Below w.heap.size w w':=by
 obtain⟨ds,hds⟩:∃ds,ds=(l.map bv).toArray:=⟨_,rfl⟩
 have hsz:ds.size=32:=by rw[hds];simp[hl]
 obtain⟨es,hes⟩:∃es,es=(m.map bv).toArray:=⟨_,rfl⟩
 have hsy:es.size=32:=by rw[hes];simp[hm]
 have hd1:=Vx0 w (.cells ds 26)
 have hd2:=Vx0 (w.alloc (.cells ds 26)) (.cells es 26)
 have hd3:=(Below.heap_alloc (w.alloc (.cells ds 26)) (.cells es 26) w.heap.size (by simp)).trans hd1
 have r1:=Zae (l:=l.map bv) (by rw[← hds];exact hd3)
 have r2:=Zae (l:=m.map bv) (by rw[← hes];exact hd2)
 have hsh:=Zi3 l m ((w.alloc (.cells ds 26)).alloc (.cells es 26)) hl hm
 rw[← hds,←hes]at hsh ⊢
 replace hds:=hid hds
 replace hes:=hid hes
 have W2:=Zag (Zad w (.cells ds 26)) (Zad _ (.cells es 26))
 simp only[Vx2]at hd2 r2
 go_enter Tryz.func232,Tryz.ntmps232
 go_wp2_with (first
  |((with_reducible refine wpList_load_row rfl 26 (.tmp 2) rfl w.heap.size rfl 26 ds (0,0) _ ?_ Tryz.underlying26 rfl ?_ ?_);exact hd3;(rw[hsz];exact Zai))
  |((with_reducible refine wpList_load_row rfl 26 (.tmp 3) rfl (w.heap.size+1) rfl 26 es (0,0) _ ?_ Tryz.underlying26 rfl ?_ ?_);exact hd2;(rw[hsy];exact Zai)))
 refine hsh.mono ?_
 rintro e w3 ⟨rfl,hb3⟩
 replace r1:=Zal hb3 r1
 replace r2:=Zal hb3 r2
 have hb:=Zag W2 hb3
 generalize hn:shared l m=n at *
 have hle:n≤256:=by rw[← hn];exact Zey l m
 have hu:=Tryz.underlying26
 have i0:(Tryz.prog.info? 26).map (·.size)=some (l.map bv).length:=by rw[Vx6,hl];exact Zai
 have i1:(Tryz.prog.info? 26).map (·.size)=some (m.map bv).length:=by rw[Vx6,hm];exact Zai
 have hah:ahead l m=decide (n<256∧kb l n<kb m n):=by unfold ahead;rw[hn]
 replace hn:=hid hn
 clear hd1 hd2 hd3 hb3 hsh
 go_wp2_with fail
 by_cases hlt:n<256
 ·have hn1:(n:Int)<256:=by omega
  have hq:decide ((kb l n:Int)<(kb m n:Int))=ahead l m:=by rw[hah];apply decide_eq_decide.2;omega
  refine wp_region_noPanic ?_
  refine wp_region_held_drew (S:=fun w'=>w'.rangeAt w.heap.size 0 (l.map bv)∧w'.rangeAt (w.heap.size+1) 0 (m.map bv)∧Below w.heap.size w w') (by kernel_rfl) ?_ (fun hHeld=>?_)
  ·exact⟨r1,r2,hb.drew⟩
  refine' tkL 0 ?_ rfl ?_ ?_
  rotate_left
  ·intro w hSw
   go_simp
   first|done|(with_reducible rfl)
  try simp only[sQ]
  refine' tkL 1 ?_ rfl ?_ ?_
  rotate_left
  ·intro w hSw
   go_simp
   first|done|(with_reducible rfl)
  try simp only[sQ]
  refine' tkL 2 ?_ rfl ?_ ?_
  rotate_left
  ·intro w hSw
   go_simp
   first|done|(with_reducible rfl)
  try simp only[sQ]
  refine' tkM 3 rfl (fun _ h=>h.1) hu i0 ?_
  simp only[sQ]
  refine' tkL 4 ?_ rfl ?_ ?_
  rotate_left
  ·intro w hSw
   go_simp
   first|done|(with_reducible rfl)
  try simp only[sQ]
  refine' tkM 6 rfl (fun _ h=>h.2.1) hu i1 ?_
  simp only[sQ]
  refine' tkL 7 ?_ rfl ?_ ?_
  rotate_left
  ·intro w hSw
   go_simp
   first|done|(with_reducible rfl)
  try simp only[sQ]
  refine rdH 5 rfl fun K hK=>?_
  go_simp
  refine(ZiL l n _ hl (by omega)).mono ?_
  rintro e7 w7 ⟨rfl,hB⟩
  go_wp2_with fail
  refine hK.out _ _ (⟨Zal hB hHeld.1,Zal hB hHeld.2.1,hHeld.2.2.trans (hB.mono hHeld.2.2.size)⟩) fun hHeld=>?_
  clear hK K
  try simp only[sQ]
  refine rdH 8 rfl fun K hK=>?_
  go_simp
  refine(ZiL m n _ hm (by omega)).mono ?_
  rintro e7 w7 ⟨rfl,hB⟩
  go_wp2_with fail
  refine hK.out _ _ (⟨Zal hB hHeld.1,Zal hB hHeld.2.1,hHeld.2.2.trans (hB.mono hHeld.2.2.size)⟩) fun hHeld=>?_
  clear hK K
  try simp only[sQ]
  refine' tkL 9 ?_ rfl ?_ ?_
  rotate_left
  ·intro w hSw
   go_simp
   first|done|(with_reducible rfl)
  try simp only[sQ]
  refine' tkL 10 ?_ rfl ?_ ?_
  rotate_left
  ·intro w hSw
   go_simp
   first|done|(with_reducible rfl)
  try simp only[sQ]
  refine' tkL 11 ?_ rfl ?_ ?_
  rotate_left
  ·intro w hSw
   go_simp
   first|done|(with_reducible rfl)
  try simp only[sQ]
  refine dnN ?_
  go_wp2
  go_ret
  refine⟨?_,hHeld.2.2⟩
  show Ending.returned (.bool (decide (kb l n<kb m n)))=_
  rw[hah]
  simp[hlt]
 ·obtain rfl:n=256:=by omega
  have hq:ahead l m=false:=by rw[hah];apply Vy1;omega
  refine wp_region_noPanic ?_
  refine wp_region_held_drew (S:=fun w'=>w'.rangeAt w.heap.size 0 (l.map bv)∧w'.rangeAt (w.heap.size+1) 0 (m.map bv)∧Below w.heap.size w w') (by kernel_rfl) ?_ (fun hHeld=>?_)
  ·exact⟨r1,r2,hb.drew⟩
  refine' tkL 0 ?_ rfl ?_ ?_
  rotate_left
  ·intro w hSw
   go_simp
   first|done|(with_reducible rfl)
  try simp only[sQ]
  refine' tkL 1 ?_ rfl ?_ ?_
  rotate_left
  ·intro w hSw
   go_simp
   first|done|(with_reducible rfl)
  try simp only[sQ]
  refine' tkL 2 ?_ rfl ?_ ?_
  rotate_left
  ·intro w hSw
   go_simp
   first|done|(with_reducible rfl)
  try simp only[sQ]
  refine' tkW 3 4 ?_
  refine' tkW 5 6 ?_
  simp only[sQ]
  refine' tkW 7 8 ?_
  refine' tkR 9 rfl ?_
  simp only[sQ]
  refine' tkL 10 ?_ rfl ?_ ?_
  rotate_left
  ·intro w hSw
   go_simp
   first|done|(with_reducible rfl)
  try simp only[sQ]
  refine' tkL 11 ?_ rfl ?_ ?_
  rotate_left
  ·intro w hSw
   go_simp
   first|done|(with_reducible rfl)
  try simp only[sQ]
  refine dnN ?_
  go_wp2
  go_ret
  exact⟨by rw[hq];rfl,hHeld.2.2⟩
end Go.Proofs.YtomhoehlgagiiaaGreatDoor
