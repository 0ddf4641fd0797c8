import Derived.Test.YtomhoehlgagiiaaGreatDoorRefE
set_option maxRecDepth 100000
set_option linter.all false
set_option maxHeartbeats 1600000
namespace Go.Proofs.YtomhoehlgagiiaaGreatDoor
open Go.RowKit
theorem Yhx(k:Dg):(Tryz.prog.info? 26).map (·.size)=some (k.1.map bv).length:=by rw[Vx6,k.2];exact Zai
set_option maxRecDepth 100000 in
theorem Zoj(F:Nat→Prop)(A:Option Addr)(c n:Nat)(ps:List Pr)(w:World)(hr:Row F w A ps)(hn:n=ps.length)(hc:ps.length≤1000000)(hv:∀p∈ps,p.v.length≤1000000):
  Calls Tryz.prog 269 #[.slice A n c] w fun e w'=>∃A' c',e=.returned (.slice A' ps.length c')∧OwnR 84 w' w.heap.size A' c' ps∧Below w.heap.size w w':=by
 subst hn
 have hu:=Tryz.underlying26
 go_enter Tryz.func269,Tryz.ntmps269
 go_wp2
 go_loopw [3,4] (fun v i wr=>∃(j:Nat) (A':Option Addr) (c':Nat),j≤ps.length∧i=.int .i64 j∧v=.slice A' (ps.take j).length c'∧OwnR 84 wr w.heap.size A' c' (ps.take j)∧Below w.heap.size w wr) (fun _ i _=>ps.length-(intOf i).toNat)
 case atStart=>exact⟨0,none,0,Nat.zero_le _,rfl,rfl,OwnR.nil _ _,Below.refl _ _⟩
 case round=>
  obtain⟨j,A0,c0,hj,rfl,rfl,ho,hb⟩:=hrel
  have hx:(ps.take j).length≤j:=by rw[List.length_take];omega
  by_cases hlt:j<ps.length
  ·have E:=hid (Vy5 hlt)
   have hv1:=hv _ (List.getElem_mem hlt)
   obtain⟨b,o,hA,r1,A',c',hcell,-,h1,h2,h3⟩:=ZcO hr hlt
   subst hA
   have hrd:=h3.rd
   have hi:=Yhx ps[j].k
   have hp:ps[j]=⟨ps[j].k,ps[j].v⟩:=rfl
   rw[hp]at E
   generalize hy:ps.take (j+1)=y at *
   replace hy:=hid hy
   generalize ps.take j=x at *
   generalize ps[j].k=k at *
   generalize ps[j].v=v at *
   clear hp hr h3
   replace hi:=hid hi
   replace hx:=hid hx
   have hbs:=hb.size
   go_wp2
   refine wp_region_noPanic ?_
   refine wp_region_held_drew (S:=fun w'=>Below w.heap.size w w') (by kernel_rfl) ?_ (fun hHeld=>?_)
   ·exact below_drewN hb 1
   refine' tkW 0 1 ?_
   refine' tkW 2 3 ?_
   simp only[sQ]
   refine' tkP 4 rfl ?_
   refine' tkM 5 rfl (fun _ h=>Zab h r1) hu hi.out ?_
   refine' tkW 6 7 ?_
   simp only[sQ]
   refine' tkW 8 9 ?_
   refine' tkC 10 rfl hcell ?_
   simp only[sQ]
   refine rdH 11 rfl fun K hK=>?_
   go_simp
   refine(Zbe A' v.length c' v _ (hrd.bel hHeld) rfl (by omega)).mono ?_
   rintro e7 w7 ⟨A4,c4,rfl,ho4,hB⟩
   go_wp2_with fail
   refine kB hK hHeld hB fun hHeld=>?_
   clear hK K
   try simp only[sQ]
   refine' tkH 12 rfl (Yb1 (by rfl) _ _ rfl _ _ (ZbK k (.slice A4 v.length c4) rfl) rfl) ?_
   simp only[sQ]
   refine rdH 13 rfl fun K hK=>?_
   refine ZbE slotPr (by decide) rfl (.tmp 23) rfl _ rfl (Zbq k _) ?_
   refine hK.out _ _ (hHeld.trans ((Zad _ _).mono hHeld.size)) fun hHeld=>?_
   clear hK K
   try simp only[sQ]
   refine rdH 14 rfl fun K hK=>?_
   refine Zgc slotPr rfl (.tmp 11) (.tmp 24) rfl w.heap.size w.heap.size A0 _ x.length 1 c0 1 x [⟨k,v⟩] _ rfl rfl rfl rfl (((ho.bel (Zao wr)).bel hB).alloc _) (ZaE (Zbb ho4)) (ZmJ ho.blk hbs fun b hb=>by obtain⟨a,ha,rfl⟩:=hb;exact⟨(ho4.soft a ha).1,(ho4.soft a ha).2.kept ((Zad w7 _).block _ (ho4.soft a ha).2.lt)⟩) (by have:=hx.out;simp;omega) hHeld.size ?_
   intro A5 c5 w5 ho5 hB5
   refine hK.out _ _ (hHeld.trans hB5) fun hHeld=>?_
   clear hK K
   try simp only[sQ]
   refine' tkP 15 rfl ?_
   simp only[sQ]
   refine dnN ?_
   rw[← E.out]at ho5
   go_wp2
   go_roundw
   case rel=>
    have hl:x.length+1=y.length:=by rw[E.out];simp
    rw[hl]
    rw[← hy.out]at ho5 ⊢
    exact⟨j+1,A5,c5,by omega,by go_num,rfl,ho5,hHeld⟩
   case measure=>simp[intOf];omega
  ·obtain rfl:j=ps.length:=by omega
   rw[List.take_length]at ho ⊢
   go_wp2
   go_ret
   exact⟨A0,c0,rfl,ho,hb⟩
theorem without_take{ps:List Pr}{k:Dg}{j:Nat}(hj:j<ps.length):withoutP (ps.take (j+1)) k=withoutP (ps.take j) k++(if ps[j].k=k then [] else [ps[j]]):=by
 unfold withoutP
 rw[Vy5 hj,List.filter_append]
 congr 1
 by_cases h:ps[j].k=k<;>simp[h]
theorem Yjc(k:Dg)(x:Value):(Tryz.prog.info? 84).map (·.size)=some (k.1.map bv++[x]).length:=by
 have h:=slotPr.info
 rw[Zbq]
 cases hi:Tryz.prog.info? 84 with
 |none=>rw[hi]at h;cases h
 |some i=>
  rw[hi]at h
  simp at h
  simp[h.2.1]
set_option maxRecDepth 100000 in
theorem Zgk(F:Nat→Prop)(A:Option Addr)(c n:Nat)(ps:List Pr)(k:Dg)(w:World)(hr:Row F w A ps)(hn:n=ps.length)(hc:ps.length≤1000000)(hv:∀p∈ps,p.v.length≤1000000):
  Calls Tryz.prog 249 #[.slice A n c,.agg (k.1.map bv).toArray] w fun e w'=>∃A' c',e=.returned (.slice A' (withoutP ps k).length c')∧OwnR 84 w' w.heap.size A' c' (withoutP ps k)∧Below w.heap.size w w':=by
 subst hn
 have hu:=Tryz.underlying26
 have hu2:=Tryz.underlying84
 have hbox:=ZeJ w k 26
 have b0:=Zad w (.cells (k.1.map bv).toArray 26)
 have sz:(w.alloc (.cells (k.1.map bv).toArray 26)).heap.size=w.heap.size+1:=Vx2 _ _
 have hi:=ZaF k
 have hwl:=ZbP ps k
 have hr0:=hr.bel b0
 obtain⟨ds,hds⟩:∃ds,ds=k.1.map bv:=⟨_,rfl⟩
 rw[← hds]at hbox b0 hi hr0 sz ⊢
 obtain⟨res,hres⟩:∃r,withoutP ps k=r:=⟨_,rfl⟩
 have hv2:∀p∈res,p.v.length≤1000000:=fun p hp=>hv p (List.mem_filter.1 (by rw[← hres]at hp;exact hp)).1
 rw[hres]at hwl ⊢
 replace hres:=hid hres
 replace hds:=hid hds
 replace hi:=hid hi
 clear hr
 go_enter Tryz.func249,Tryz.ntmps249
 go_wp2
 generalize w.alloc (.cells ds.toArray 26)=w1 at *
 have hb1:Below w1.heap.size w1 w1:=Below.refl _ _
 replace sz:=hid sz
 go_loopw [5,6] (fun v i wr=>∃(j:Nat) (A':Option Addr) (c':Nat),j≤ps.length∧i=.int .i64 j∧v=.slice A' (withoutP (ps.take j) k).length c'∧RowO 84 (fun b=>b<w1.heap.size) wr w1.heap.size A' c' (withoutP (ps.take j) k)∧Below w1.heap.size w1 wr) (fun _ i _=>ps.length-(intOf i).toNat)
 case atStart=>exact⟨0,none,0,Nat.zero_le _,rfl,rfl,RowO.nil _ _ _,hb1⟩
 case round=>
  obtain⟨j,A0,c0,hj,rfl,rfl,ho,hb⟩:=hrel
  have hx:(withoutP (ps.take j) k).length≤j:=by have:=ZbP (ps.take j) k;rw[List.length_take]at this;omega
  by_cases hlt:j<ps.length
  ·have E:=hid (without_take (k:=k) hlt)
   obtain⟨b,o,hA,r1,A',c',hcell,r2,h1,h2,h3⟩:=ZcO hr0 hlt
   subst hA
   obtain⟨eb,heb⟩:∃eb,decide (ps[j].k=k)=eb:=⟨_,rfl⟩
   have hE:∀W,(Op.equalIn 10000 26 (.agg (ps[j].k.1.map bv).toArray) (.agg ds.toArray)).run Tryz.prog W=.ok eb W:=fun W=>by rw[hds.out];exact ZaL ps[j].k k eb heb W
   have hp:ps[j]=⟨ps[j].k,ps[j].v⟩:=rfl
   have E2:Hid (withoutP (ps.take (j+1)) k=if eb=true then withoutP (ps.take j) k else withoutP (ps.take j) k++[⟨ps[j].k,ps[j].v⟩]):=by
    refine E.out.trans ?_
    by_cases hk:ps[j].k=k
    ·have:eb=true:=by rw[← heb,Vy2 hk]
     rw[if_pos hk,if_pos this,List.append_nil]
    ·have:eb=false:=by rw[← heb,Vy1 hk]
     rw[if_neg hk,this];rfl
   have hs:=Yjc ps[j].k (.slice A' ps[j].v.length c')
   clear heb E hp
   have hi1:=ZaF ps[j].k
   generalize hy:withoutP (ps.take (j+1)) k=y at *
   replace hy:=hid hy
   generalize withoutP (ps.take j) k=x at *
   generalize ps[j].k=kq at *
   generalize ps[j].v=v at *
   have z1:=kq.2
   replace hx:=hid hx
   replace hs:=hid hs
   replace hi1:=hid hi1
   have hbs:=hb.size
   have R3:=Enc.mono (ZcL kq v A' c' h1 h2 h3) (G:=fun b=>b<w1.heap.size) fun b _ hl=>hl
   clear hr0 h3
   go_wp2
   refine wp_region_noPanic ?_
   refine wp_region_held_drew (S:=fun w'=>Below w1.heap.size w1 w') (by kernel_rfl) ?_ (fun hHeld=>?_)
   ·exact below_drewN hb 1
   refine' tkW 0 1 ?_
   refine' tkW 2 3 ?_
   simp only[sQ]
   refine' tkM 4 rfl (fun _ h=>Zab h r1) hu hi1.out ?_
   refine' tkM 5 rfl (fun _ h=>Zab h hbox) hu hi.out ?_
   refine' tkP 6 rfl ?_
   simp only[sQ]
   refine dnN ?_
   have E3:=E2.out
   have R2:=Zab hHeld r2
   replace R3:=Enc.bel2 R3 hHeld
   replace ho:=ho.bel (Zao wr)
   replace hbs:w1.heap.size≤wr.drew.heap.size:=hbs
   clear hb r2
   cases eb
   ·rw[if_neg (by decide)]at E3
    replace E3:=hid E3
    clear E2
    generalize wr.drew=wq at *
    go_wp2_with (first
     |(with_reducible refine lDr R2 hs.out hu2 ?_)
     |((with_reducible refine ZaC slotPr (by decide) rfl (.tmp 24) rfl (kq.1.map bv++[.slice A' v.length c']) ?_ (Zbq kq _) ?_);rfl)
     |(at_builtin;refine ZaJ slotPr rfl (.tmp 20) (.tmp 25) rfl (fun b=>b<w1.heap.size) w1.heap.size A0 _ x.length 1 c0 1 x [⟨kq,v⟩] rfl rfl rfl rfl (ho.alloc _) (ZaE R3) (fun b hb=>by rw[Vx2];exact Nat.lt_succ_of_lt (Vx4 hb hbs)) (by have:=hx.out;simp;omega) (by rw[Vx2];omega) ?_;intro A5 c5 w5 ho5 hB5))
    rw[← E3.out]at ho5
    go_roundw
    case rel=>
     have hl:x.length+1=y.length:=by rw[E3.out];simp
     rw[hl]
     rw[← hy.out]at ho5 ⊢
     exact⟨j+1,A5,c5,by omega,by go_num,rfl,ho5,(hHeld.trans ((Zad wq _).mono hbs)).trans hB5⟩
    case measure=>simp[intOf];omega
   ·rw[if_pos rfl]at E3
    replace E3:=hid E3
    clear E2
    go_wp2
    go_roundw
    case rel=>
     rw[← E3.out,←hy.out]at ho ⊢
     exact⟨j+1,A0,c0,by omega,by go_num,rfl,ho,hHeld⟩
    case measure=>simp[intOf];omega
  ·obtain rfl:j=ps.length:=by omega
   rw[List.take_length,hres.out]at ho hx ⊢
   have hrow:=ho.row
   replace hx:=hid hx
   go_wp2_with fail
   refine(Zoj _ A0 c0 res.length res _ hrow rfl (by have:=hx.out;omega) hv2).mono ?_
   rintro e w4 ⟨A4,c4,rfl,ho4,hb4⟩
   go_wp2
   go_ret
   exact⟨A4,c4,rfl,ho4.base (Vx1 b0.size hb.size),b0.trans ((hb.trans (hb4.mono hb.size)).mono b0.size)⟩
theorem Yfq{A:Option Addr}{n m c:Nat}(h:n=m):Ending.returned (.slice A n c)=.returned (.slice A m c):=by rw[h]
theorem YcJ{ps:List Pr}{k:Dg}{j:Nat}(hj:j<ps.length)(h:∀p∈ps.take j,ahead p.k.1 k.1=true)(ha:ahead ps[j].k.1 k.1=true):∀p∈ps.take (j+1),ahead p.k.1 k.1=true:=by
 intro p hp
 rw[Vy5 hj]at hp
 rcases List.mem_append.1 hp with hp|hp
 ·exact h p hp
 ·simp at hp;rw[hp];exact ha
theorem ZuC{ps:List Pr}{k:Dg}{j:Nat}(hj:j≤ps.length)(h:∀p∈ps.take j,ahead p.k.1 k.1=true)(hn:∀hl:j<ps.length,ahead ps[j].k.1 k.1=false):cnt ps k=j:=by
 induction ps generalizing j with
 |nil=>simp at hj;subst hj;rfl
 |cons q ps ih=>
  rw[ZjK]
  rcases j with _|j
  ·rw[if_neg]
   have:=hn (by simp)
   simp at this
   rw[this];simp
  ·rw[if_pos (h q (by simp))]
   rw[ih (by simpa using hj) (fun p hp=>h p (by simp[hp])) (fun hl=>hn (by simpa using hl))]
set_option maxRecDepth 100000 in
theorem ZmE(F:Nat→Prop)(A V:Option Addr)(c n m d:Nat)(ps:List Pr)(k:Dg)(v:List UInt8)(w:World)(hr:Row F w A ps)(hn:n=ps.length)(hrv:Rd w V v)(hm:m=v.length)(hc:ps.length≤1000000)(hv:∀p∈ps,p.v.length≤1000000)(hvl:v.length≤1000000):
  Calls Tryz.prog 250 #[.slice A n c,.agg (k.1.map bv).toArray,.slice V m d] w fun e w'=>∃A' c',e=.returned (.slice A' (withP ps k v).length c')∧OwnR 84 w' w.heap.size A' c' (withP ps k v)∧Below w.heap.size w w':=by
 subst hn hm
 have hu:=Tryz.underlying26
 have hbox:=ZeJ w k 26
 have b0:=Zad w (.cells (k.1.map bv).toArray 26)
 have sz:(w.alloc (.cells (k.1.map bv).toArray 26)).heap.size=w.heap.size+1:=Vx2 _ _
 have hi:=ZaF k
 have hwl:=ZbP ps k
 have hO:=fun W hW=>Zgk F A c ps.length ps k W hW rfl hc hv
 have hr0:=hr.bel b0
 have hrv0:=hrv.bel b0
 obtain⟨rest,hrest⟩:∃r,withoutP ps k=r:=⟨_,rfl⟩
 have e0:withP ps k v=rest.take (cnt rest k)++⟨k,v⟩::rest.drop (cnt rest k):=by rw[← hrest];rfl
 obtain⟨res,hres⟩:∃r,withP ps k v=r:=⟨_,rfl⟩
 rw[hres]at e0 ⊢
 rw[hrest]at hO hwl
 obtain⟨ds,hds⟩:∃ds,ds=k.1.map bv:=⟨_,rfl⟩
 rw[← hds]at hbox b0 hi hr0 hrv0 sz hO ⊢
 replace e0:=hid e0
 replace hds:=hid hds
 replace hi:=hid hi
 replace hO:=hid hO
 clear hr hrv hrest hres hv
 go_enter Tryz.func250,Tryz.ntmps250
 go_wp2_with ((with_reducible refine lDr hbox hi.out hu ?_))
 refine(hO.out _ hr0).mono ?_
 rintro e w2 ⟨A2,c2,rfl,ho2,hb2⟩
 have hbx:=Zab hb2 hbox
 have hrv2:=hrv0.bel hb2
 replace b0:=b0.trans (hb2.mono b0.size)
 generalize w.alloc (.cells ds.toArray 26)=w1 at *
 replace sz:=hid sz
 have hrow:=ho2.row
 have hcap:=ho2.cap
 go_wp2
 go_loopw [8] (fun i wr=>∃j:Nat,j≤rest.length∧i=.int .i64 j∧(∀ p∈rest.take j,ahead p.k.1 k.1=true)∧Below w2.heap.size w2 wr) (fun i _=>rest.length-(intOf i).toNat)
 case atStart=>exact⟨0,Nat.zero_le _,rfl,by simp,Below.refl _ _⟩
 case round=>
  obtain⟨j,hj,rfl,hrel,hb⟩:=hrel
  by_cases hlt:j<rest.length
  case' pos=>
   obtain⟨b,o,hA,r1,-⟩:=ZcO hrow hlt
   obtain⟨ab,hab⟩:∃ab,ahead rest[j].k.1 k.1=ab:=⟨_,rfl⟩
   have hnext:Hid (ab=true→∀p∈rest.take (j+1),ahead p.k.1 k.1=true):=fun h=>YcJ hlt hrel (hab.trans h)
   have hstop:Hid (ab=false→cnt rest k=j):=fun h=>ZuC hj hrel (fun _=>hab.trans h)
   replace hrel:=hid hrel
   replace hab:=hid hab
   have hi1:=hid (ZaF rest[j].k)
   generalize rest[j].k=kq at *
   have z1:=kq.2
   have hE:∀W,Calls Tryz.prog 232 #[.agg (kq.1.map bv).toArray,.agg ds.toArray] W fun r w'=>r=.returned (.bool ab)∧Below W.heap.size W w':=fun W=>by
    rw[hds.out]
    exact ZqO kq k _ _ ab W rfl rfl hab.out
   replace hE:=hid hE
   subst hA
   go_wp2
   refine wp_region_noPanic ?_
   refine wp_region_held_drew (S:=fun w'=>Below w2.heap.size w2 w') (by kernel_rfl) ?_ (fun hHeld=>?_)
   ·exact below_drewN hb 1
   refine' tkW 0 1 ?_
   refine' tkW 2 3 ?_
   simp only[sQ]
   refine' tkW 4 5 ?_
   refine' tkW 6 7 ?_
   simp only[sQ]
   refine' tkP 8 rfl ?_
   refine' tkM 9 rfl (fun _ h=>Zab h r1) hu hi1.out ?_
   refine' tkM 10 rfl (fun _ h=>Zab h hbx) hu hi.out ?_
   simp only[sQ]
   refine rdC 11 rfl (hE.out _) fun w7 hB hHeld=>?_
   try simp only[sQ]
   refine' tkP 12 rfl ?_
   simp only[sQ]
   refine dnN ?_
   cases ab
   case' true=>
    replace hnext:=hid (hnext.out rfl)
    clear hstop
    go_wp2
    go_roundw
    case rel=>exact⟨j+1,by omega,by go_num,hnext.out,hHeld⟩
    case measure=>simp[intOf];omega
   case' false=>
    replace hstop:=hid (hstop.out rfl)
    clear hnext hE hi1 z1 hab r1 hlt hrel hb hB
    generalize kq.1.map bv=ks
    clear kq
    generalize (some (⟨b,o,none⟩:Addr))=A2 at *
  case' neg=>
   have hstop:Hid (cnt rest k=j):=ZuC hj hrel (fun h=>absurd h hlt)
   go_wp2
   refine wp_region_noPanic ?_
   refine wp_region_held_drew (S:=fun w'=>Below w2.heap.size w2 w') (by kernel_rfl) ?_ (fun hHeld=>?_)
   ·exact below_drewN hb 1
   refine' tkW 0 1 ?_
   refine' tkW 2 3 ?_
   simp only[sQ]
   refine' tkW 4 5 ?_
   refine' tkW 6 7 ?_
   simp only[sQ]
   refine' tkW 8 9 ?_
   refine' tkW 10 11 ?_
   simp only[sQ]
   refine' tkP 12 rfl ?_
   simp only[sQ]
   refine dnN ?_
   generalize wr.drew=w7 at *
   clear hrel hlt hb
  all_goals
   obtain⟨F2,hro,hF2⟩:∃F,RowO 84 F w7 w1.heap.size A2 c2 rest∧∀b,F b→w1.heap.size≤b∧Soft w7 b:=ho2.bel hHeld
   have hbx7:=Zab hHeld hbx
   have hrv7:=hrv2.bel hHeld
   have B7:=hid (hb2.trans (hHeld.mono hb2.size))
   have B07:=hid (b0.trans (hHeld.mono b0.size))
   rw[hstop.out]at e0
   obtain⟨x1,hx1⟩:∃x,rest.take j=x:=⟨_,rfl⟩
   obtain⟨x2,hx2⟩:∃x,rest.drop j=x:=⟨_,rfl⟩
   rw[hx1,hx2]at e0
   have s1:=hid (hx1▸hro.src.take j)
   have s2:=hid (hx2▸hro.src.cut j c2 hj hcap.1)
   have l1:x1.length=j:=by rw[← hx1,List.length_take];omega
   have l2:x2.length=rest.length-j:=by rw[← hx2,List.length_drop]
   have hjc:j≤c2:=Vx1 hj hcap.1
   have hcm:=hcap.2
   replace hcap:=hcap.1
   have hBu:∀x:Value,x.cells=#[x]→Tryz.prog.built 84 [(0,.agg ds.toArray),(1,x)]=some (ds++[x]).toArray:=fun x hx=>by rw[hds.out];exact ZbK k x hx
   have hLen:∀x:Value,(ds++[x]).length=Enc.size Pr:=fun x=>by rw[hds.out];exact Zbq k x
   have hRep:∀(W:World) (B:Nat) (A4:Option Addr) (c4:Nat),Own 5 W B A4 c4 v→Enc.rep (fun b=>∃a,A4=some a∧b=a.block) W (⟨k,v⟩:Pr) (ds++[.slice A4 v.length c4]):=fun W B A4 c4 h=>by rw[hds.out];exact Zbb h
   replace l1:=hid l1
   replace l2:=hid l2
   replace hBu:=hid hBu
   replace hLen:=hid hLen
   replace hRep:=hid hRep
   clear hx1 hx2 hbx hrv2 hrow hr0 hrv0 hbox hO hHeld ho2
   go_wp2_with ((at_builtin;refine ZbG slotPr rfl (.tmp 28) (.tmp 31) rfl w1.heap.size w7.heap.size none A2 0 j 0 c2 [] x1 F2 rfl rfl rfl l1.out.symm (OwnQ.nil _ _ _) s1.out (fun b hb=>⟨(hF2 b hb).1,(hF2 b hb).2,fun a h=>by cases h⟩) (by have:=l1.out;simp;omega) (Vx8 _) ?_;intro A3 c3 w8 ho8 hb8;rw[List.nil_append]at ho8 ⊢))
   refine wp_region_noPanic ?_
   refine wp_region_held_drew (S:=fun w'=>Below w7.heap.size w7 w') (by kernel_rfl) ?_ (fun hHeld=>?_)
   ·exact below_drewN hb8 1
   refine' tkP 0 rfl ?_
   refine' tkM 1 rfl (fun _ h=>Zab h hbx7) hu hi.out ?_
   refine' tkP 2 rfl ?_
   simp only[sQ]
   refine rdH 3 rfl fun K hK=>?_
   go_simp
   refine(Zbe V v.length d v _ (hrv7.bel hHeld) rfl (by omega)).mono ?_
   rintro e9 w9 ⟨A4,c4,rfl,ho4,hB⟩
   go_wp2_with fail
   refine kB hK hHeld hB fun hHeld=>?_
   clear hK K
   try simp only[sQ]
   refine' tkH 4 rfl (Yb1 (by rfl) _ _ rfl _ _ (hBu.out (.slice A4 v.length c4) rfl) rfl) ?_
   simp only[sQ]
   refine rdH 5 rfl fun K hK=>?_
   refine ZbE slotPr (by decide) rfl (.tmp 37) rfl _ rfl (hLen.out _) ?_
   refine hK.out _ _ (hHeld.trans ((Zad _ _).mono hHeld.size)) fun hHeld=>?_
   clear hK K
   try simp only[sQ]
   refine rdH 6 rfl fun K hK=>?_
   refine Zgc slotPr rfl (.tmp 33) (.tmp 38) rfl w1.heap.size w7.heap.size A3 _ x1.length 1 c3 1 x1 [⟨k,v⟩] _ rfl rfl rfl rfl (((ho8.bel (Zao w8)).bel hB).alloc _) (ZaE (hRep.out _ _ _ _ ho4)) (ZmJ ho8.blk (Vx1 B7.out.size hb8.size) fun b hb=>by obtain⟨a,ha,rfl⟩:=hb;exact⟨(ho4.soft a ha).1,(ho4.soft a ha).2.kept ((Zad w9 _).block _ (ho4.soft a ha).2.lt)⟩) (by have:=l1.out;simp;omega) hHeld.size ?_
   intro A5 c5 w10 ho10 hB10
   refine hK.out _ _ (hHeld.trans hB10) fun hHeld=>?_
   clear hK K
   try simp only[sQ]
   refine' tkP 7 rfl ?_
   simp only[sQ]
   refine dnN ?_
   generalize hx3:x1++[(⟨k,v⟩:Pr)]=x3 at *
   replace hx3:=hid hx3
   have l3:Hid (x1.length+1=x3.length):=by have:=congrArg List.length hx3.out;simp at this;exact this
   have hF3:∀b,F2 b→w1.heap.size≤b∧Soft w10 b∧∀a,A5=some a→b≠a.block:=fun b hb=>⟨(hF2 b hb).1,(hF2 b hb).2.kept (hHeld.block b (hF2 b hb).2.lt),fun a h=>by have:=(ho10.blk a h).1;have:=(hF2 b hb).2.lt;omega⟩
   have hlen3:Hid ((x3.length+x2.length) * (56+1)≤140737488355328):=by have h1:=l1.out;have h2:=l2.out;have h3:=l3.out;show _≤_;omega
   replace hF3:=hid hF3
   by_cases hcj:c2=j
   ·subst hcj
    rw[if_pos rfl]at s2
    have l4:Hid (0=x2.length):=by have:=l2.out;show _=_;omega
    go_wp2_with ((at_builtin;refine ZbG slotPr rfl (.tmp 40) (.tmp 43) rfl w1.heap.size w7.heap.size A5 _ (x1.length+1) 0 c5 _ x3 x2 F2 rfl rfl l3.out l4.out ho10 (s2.out.bel hHeld) hF3.out hlen3.out hHeld.size ?_;intro A6 c6 w11 ho11 hB11))
    go_ret
    have he:res=x3++x2:=by rw[e0.out,←hx3.out];simp
    rw[he]
    exact⟨A6,c6,Yfq (Vx3).symm,ho11.base2 (by have:=sz.out;omega) B07.out.size,B07.out.trans ((hHeld.trans hB11).mono B07.out.size)⟩
   ·rw[if_neg hcj]at s2
    go_wp2_with ((at_builtin;refine ZbG slotPr rfl (.tmp 40) (.tmp 43) rfl w1.heap.size w7.heap.size A5 _ (x1.length+1) (rest.length-j) c5 (c2-j) x3 x2 F2 rfl rfl l3.out l2.out.symm ho10 (s2.out.bel hHeld) hF3.out hlen3.out hHeld.size ?_;intro A6 c6 w11 ho11 hB11))
    go_ret
    have he:res=x3++x2:=by rw[e0.out,←hx3.out];simp
    rw[he]
    exact⟨A6,c6,Yfq (Vx3).symm,ho11.base2 (by have:=sz.out;omega) B07.out.size,B07.out.trans ((hHeld.trans hB11).mono B07.out.size)⟩
end Go.Proofs.YtomhoehlgagiiaaGreatDoor
