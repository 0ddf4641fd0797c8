/-
  Contracts of the document's answer for layer 8: From.
-/
import Derived.Test.YtapnhdpgogfceaaGreatDoorVfX
import Derived.Test.YtapnhdpgogfceaaGreatDoorRef07c
import Derived.Test.YtapnhdpgogfceaaGreatDoorRefD
import Derived.Test.YtapnhdpgogfceaaGreatDoorRefC
import Derived.Test.YtapnhdpgogfceaaGreatDoorShaR
namespace Go.Proofs.YtapnhdpgogfceaaGreatDoor
open Go.RowKit
set_option linter.unusedVariables false
set_option linter.unusedSimpArgs false
set_option maxRecDepth 100000

/-- One thing in a new block: an own row. -/
theorem RowO.one {α : Type} [Enc α] {E : TypeId} {F : Nat → Prop} {w : World} {B : Nat} {x : α} {cs : List Value} (h : Enc.rep F w x cs) (hF : ∀ b, F b → b < w.heap.size) (hB : B ≤ w.heap.size) : RowO E F (w.alloc (.cells cs.toArray E)) B (some ⟨w.heap.size, 0, none⟩) 1 [x] := by
  have hl := Enc.len h
  refine ⟨[cs], rfl, ⟨by simp [hl], .inr ⟨w.heap.size, 1, cs.toArray, rfl, hB, heap_alloc_new _ _, Nat.le_refl _, (by decide : 1 ≤ maxLen), by simp [hl], by simp [hl]; exact List.take_of_length_le (by omega)⟩⟩, ?_, ?_⟩
  · intro j y vs hy hv
    rcases j with _ | j
    · simp at hy hv
      subst hy hv
      exact Enc.bel h (ext_alloc _ _)
    · simp at hy
  · rintro a ha hf
    injection ha with ha
    subst ha
    exact absurd (hF _ hf) (Nat.lt_irrefl _)
theorem RowO.rowLt {α : Type} [Enc α] {E : TypeId} {F : Nat → Prop} {w : World} {B : Nat} {A : Option Addr} {c : Nat} {xs : List α} (h : RowO E F w B A c xs) (hF : ∀ b, F b → b < w.heap.size) : Row (fun b => b < w.heap.size) w A xs := by
  refine h.row.mono ?_
  rintro b (hb | ⟨a, ha, rfl⟩) _
  · exact hF b hb
  · exact (h.blk a ha).2
theorem Own.repLt {EB : TypeId} {w : World} {B : Nat} {A : Option Addr} {c : Nat} {l : List UInt8} (h : Own EB w B A c l) : Enc.rep (fun b => b < w.heap.size) w l [.slice A l.length c] :=
  ⟨A, c, rfl, h.cap.1, h.cap.2, h.rd.row fun a ha _ => (h.blk a ha).2⟩
theorem bitV_at (l : List UInt8) {i : Nat} (h : i < 256) : bitV l (i : Int) = kb l i := by
  unfold bitV
  rw [if_pos ⟨by omega, by omega⟩]
  rfl
/-- What From answers of. -/
def FromOk (x : Pf) (A : Option Addr) (c : Nat) (D : Option Addr) (d : Nat) (i : Nat) (l : List (List UInt8)) (W : World) : Prop :=
  Calls Tryz.prog 39 #[.agg (pfC x A c D d).toArray, .int .i64 (i : Int)] W fun e w' => ∃ A' c', e = .returned (.slice A' l.length c') ∧ Row (fun b => b < w'.heap.size) w' A' l ∧ l.length ≤ c' ∧ c' ≤ maxLen ∧ Below W.heap.size W w'
set_option maxHeartbeats 2000000 in
theorem RFrom_none (x : Pf) (A : Option Addr) (c : Nat) (D : Option Addr) (d : Nat) (w : World) (h256 : x.ss.length ≤ 256) (he : x.e = 0) : FromOk x A c D d x.ss.length [endI x] w := by
  have W0 := ext_alloc w (.cells (pfC x A c D d).toArray 30)
  have B0 := BoxP.new w x A c D d 30
  have hsd := B0.sd
  have hen := B0.en
  rw [he] at hen
  replace hen : (w.alloc (.cells (pfC x A c D d).toArray 30)).cell? ⟨w.heap.size, 32, none⟩ = some (.int .u8 0) := hen
  have hE : endI x = tagB 0 [] := by unfold endI; rw [he]; rfl
  have hO := hid (fun W => RBytes_any 0 none 0 0 [] W (fun h => absurd h (by simp)) rfl (by simp) (by simp [tagB_nil]))
  rw [hE]
  have hl1 := hid (show (tagB 0 []).length ≤ 3 by simp [tagB_nil])
  unfold FromOk
  clear B0 hE he
  generalize tagB 0 [] = l at *
  generalize x.ss.length = n at *
  generalize pfC x A c D d = cs at *
  go_enter Tryz.func39, Tryz.ntmps39
  go_wp2_with fail
  refine (hO.out _).mono ?_
  rintro e w1 ⟨A1, c1, rfl, ho1, hb1⟩
  go_wp2
  go_ret
  have W1 := W0.trans (hb1.mono W0.size)
  have hrow := RowO.rowLt (RowO.one (E := 27) (B := 0) ho1.repLt (fun b hb => hb) (Nat.zero_le _)) (fun b hb => by rw [World.size_alloc]; exact Nat.lt_succ_of_lt hb)
  exact ⟨_, _, rfl, hrow, Nat.le_refl _, (by decide : 1 ≤ maxLen), W1.trans ((ext_alloc w1 _).mono W1.size)⟩
set_option maxHeartbeats 2000000 in
theorem RFrom_own (x : Pf) (A : Option Addr) (c : Nat) (D : Option Addr) (d : Nat) (w : World) (hr : Rd w A x.v) (h1 : x.v.length ≤ c) (h2 : c ≤ maxLen) (hl : x.v.length ≤ 1000) (h256 : x.ss.length ≤ 256) (he : x.e = 1) : FromOk x A c D d x.ss.length [endI x] w := by
  have W0 := ext_alloc w (.cells (pfC x A c D d).toArray 30)
  have B0 := BoxP.new w x A c D d 30
  have hsd := B0.sd
  have hen := B0.en
  rw [he] at hen
  replace hen : (w.alloc (.cells (pfC x A c D d).toArray 30)).cell? ⟨w.heap.size, 32, none⟩ = some (.int .u8 1) := hen
  have hv := B0.val
  have hkr := hid B0.key
  have hor := hid B0.oth
  have hE : endI x = tagB 1 [x.k.1, x.v] := by unfold endI; rw [he]; rfl
  have hO := fun W A hW => RBytes_any 1 A 2 2 [x.k.1, x.v] W hW rfl (by simp) (by have := endI_le x hl; rw [hE] at this; omega)
  have hR := fun W g hW hV => rds_two W (some ⟨g, 0, none⟩) A 32 c x.k.1 x.v 27 hW hV ⟨by rw [x.k.2]; omega, by unfold maxLen; omega⟩ ⟨h1, h2⟩
  rw [x.k.2] at hR
  have hdr := fun (W : World) (g : Nat) (h : W.heap[g]? = some (.cells (x.k.1.map bv).toArray 26 (0, 0))) => rd_blockP h
  have hV := hid (hr.bel W0)
  have hu := Tryz.underlying26
  have hik := hid (sizeDg x.k)
  have hio := hid (sizeDg x.o)
  have zk : (x.k.1.map bv).toArray.size = 32 := by simp [x.k.2]
  have zo : (x.o.1.map bv).toArray.size = 32 := by simp [x.o.2]
  have ok := bvs_all x.k.1
  have oo := bvs_all x.o.1
  have hsl := run_all32P
  rw [hE]
  unfold FromOk
  replace hO := hid hO
  replace hR := hid hR
  replace hdr := hid hdr
  replace hr := hid hr
  clear B0 hE he
  generalize hll : tagB 1 [x.k.1, x.v] = l at *
  generalize x.ss.length = n at *
  generalize pfC x A c D d = cs at *
  generalize x.k.1.map bv = dk at *
  generalize x.o.1.map bv = dO at *
  replace hll := hid hll
  have hsz : (w.alloc (.cells cs.toArray 30)).heap.size = w.heap.size + 1 := by simp
  have e1 := heap_alloc_new (w.alloc (.cells cs.toArray 30)) (.cells z32 26)
  replace e1 := hid e1
  go_enter Tryz.func39, Tryz.ntmps39
  go_wp2_with (first
    | (with_reducible refine wpList_alloc_row rfl 26 rfl z32 info32 ?_)
    | ((with_reducible refine wpList_load_rng rfl 26 (.tmp 19) rfl w.heap.size 0 rfl dk _ ?_ hu rfl hik.out ?_); exact hkr.out)
    | ((with_reducible refine wpList_store_row rfl 26 (.tmp 5) (.tmp 20) rfl _ _ rfl rfl 26 z32 ?_ ?_ ?_ ?_ ?_); exact e1.out; (rw [zk]; exact size32); (rw [zk]; exact z32_size); exact ok; intro w2 hg2 hb2 hs2; have k2 := hg2; rw [hsz] at k2; have Y2 := hid (xnewP rfl hb2); have O2 := hid (rangeBel2 Y2.out hor.out); have v2 := (Y2.out.cell (World.block_lt_of_cell? _ _ hv)).trans hv; have n2 := (Y2.out.cell (World.block_lt_of_cell? _ _ hen)).trans hen; have V2 := hid (hV.out.bel Y2.out); have W2 := hid (W0.trans (Y2.out.mono W0.size)); clear hg2 hb2 hs2 hkr hor hv hen))
  go_still_tail 3, (by kernel_rfl)
  have B2 := (ext_alloc w2 (.cells #[.slice (some ⟨w.heap.size + 1, 0, none⟩) 32 32, .slice A x.v.length c] 27)).trans ((bel_drew (w2.alloc (.cells #[.slice (some ⟨w.heap.size + 1, 0, none⟩) 32 32, .slice A x.v.length c] 27))).mono (ext_alloc w2 _).size)
  have hR2 := hid ((hR.out w2 (w.heap.size + 1) (hdr.out w2 _ k2) V2.out).bel (bel_drew _))
  have W4 := hid (W2.out.trans (B2.mono W2.out.size))
  clear B2 hR hdr
  go_wp2_with fail
  refine (hO.out _ _ hR2.out).mono ?_
  rintro e w5 ⟨A5, c5, rfl, ho5, hb5⟩
  go_wp2
  go_ret
  have W5 := W4.out.trans (hb5.mono W4.out.size)
  have hrow := RowO.rowLt (RowO.one (E := 27) (B := 0) ho5.repLt (fun b hb => hb) (Nat.zero_le _)) (fun b hb => by rw [World.size_alloc]; exact Nat.lt_succ_of_lt hb)
  exact ⟨_, _, rfl, hrow, Nat.le_refl _, (by decide : 1 ≤ maxLen), W5.trans ((ext_alloc w5 _).mono W5.size)⟩
set_option maxHeartbeats 2000000 in
theorem RFrom_other (x : Pf) (A : Option Addr) (c : Nat) (D : Option Addr) (d : Nat) (w : World) (hr : Rd w A x.v) (h1 : x.v.length ≤ c) (h2 : c ≤ maxLen) (hl : x.v.length ≤ 1000) (h256 : x.ss.length ≤ 256) (he : x.e = 2) : FromOk x A c D d x.ss.length [endI x] w := by
  have W0 := ext_alloc w (.cells (pfC x A c D d).toArray 30)
  have B0 := BoxP.new w x A c D d 30
  have hsd := B0.sd
  have hen := B0.en
  rw [he] at hen
  replace hen : (w.alloc (.cells (pfC x A c D d).toArray 30)).cell? ⟨w.heap.size, 32, none⟩ = some (.int .u8 2) := hen
  have hv := B0.val
  have hkr := hid B0.key
  have hor := hid B0.oth
  have hE : endI x = tagB 1 [x.o.1, x.v] := by unfold endI; rw [he]; rfl
  have hO := fun W A hW => RBytes_any 1 A 2 2 [x.o.1, x.v] W hW rfl (by simp) (by have := endI_le x hl; rw [hE] at this; omega)
  have hR := fun W g hW hV => rds_two W (some ⟨g, 0, none⟩) A 32 c x.o.1 x.v 27 hW hV ⟨by rw [x.o.2]; omega, by unfold maxLen; omega⟩ ⟨h1, h2⟩
  rw [x.o.2] at hR
  have hdr := fun (W : World) (g : Nat) (h : W.heap[g]? = some (.cells (x.o.1.map bv).toArray 26 (0, 0))) => rd_blockP h
  have hV := hid (hr.bel W0)
  have hu := Tryz.underlying26
  have hik := hid (sizeDg x.k)
  have hio := hid (sizeDg x.o)
  have zk : (x.k.1.map bv).toArray.size = 32 := by simp [x.k.2]
  have zo : (x.o.1.map bv).toArray.size = 32 := by simp [x.o.2]
  have ok := bvs_all x.k.1
  have oo := bvs_all x.o.1
  have hsl := run_all32P
  rw [hE]
  unfold FromOk
  replace hO := hid hO
  replace hR := hid hR
  replace hdr := hid hdr
  replace hr := hid hr
  clear B0 hE he
  generalize hll : tagB 1 [x.o.1, x.v] = l at *
  generalize x.ss.length = n at *
  generalize pfC x A c D d = cs at *
  generalize x.k.1.map bv = dk at *
  generalize x.o.1.map bv = dO at *
  replace hll := hid hll
  have hsz : (w.alloc (.cells cs.toArray 30)).heap.size = w.heap.size + 1 := by simp
  have e1 := heap_alloc_new (w.alloc (.cells cs.toArray 30)) (.cells z32 26)
  replace e1 := hid e1
  go_enter Tryz.func39, Tryz.ntmps39
  go_wp2_with (first
    | (with_reducible refine wpList_alloc_row rfl 26 rfl z32 info32 ?_)
    | ((with_reducible refine wpList_load_rng rfl 26 (.tmp 19) rfl w.heap.size 0 rfl dk _ ?_ hu rfl hik.out ?_); exact hkr.out)
    | ((with_reducible refine wpList_store_row rfl 26 (.tmp 5) (.tmp 20) rfl _ _ rfl rfl 26 z32 ?_ ?_ ?_ ?_ ?_); exact e1.out; (rw [zk]; exact size32); (rw [zk]; exact z32_size); exact ok; intro w2 hg2 hb2 hs2; have k2 := hg2; rw [hsz] at k2; have Y2 := hid (xnewP rfl hb2); have O2 := hid (rangeBel2 Y2.out hor.out); have v2 := (Y2.out.cell (World.block_lt_of_cell? _ _ hv)).trans hv; have n2 := (Y2.out.cell (World.block_lt_of_cell? _ _ hen)).trans hen; have V2 := hid (hV.out.bel Y2.out); have W2 := hid (W0.trans (Y2.out.mono W0.size)); clear hg2 hb2 hs2 hkr hor hv hen)
    | ((with_reducible refine wpList_load_rng rfl 26 (.tmp 24) rfl w.heap.size 33 rfl dO _ ?_ hu rfl hio.out ?_); exact O2.out)
    | ((with_reducible refine wpList_store_row rfl 26 (.tmp 5) (.tmp 25) rfl (w.heap.size + 1) _ rfl rfl 26 dk.toArray ?_ ?_ ?_ ?_ ?_); exact k2; (rw [zo]; exact size32); (rw [zo, zk]); exact oo; intro w3 hg3 hb3 hs3; have k3 := hg3; have W3 := hid (W2.out.grown hb3 W2.out.size (fun g e => by injection e with e; omega)); have V3 := hid (hr.out.bel W3.out); have v3 := (World.cell?_of_block (a := ⟨w.heap.size, 65, none⟩) (hb3.block _ (World.block_lt_of_cell? _ _ v2) (by intro e; injection e with e; exact absurd e (by show ¬ w.heap.size = w.heap.size + 1; omega)))).trans v2; clear hg3 hb3 hs3))
  go_still_tail 3, (by kernel_rfl)
  have B2 := (ext_alloc w3 (.cells #[.slice (some ⟨w.heap.size + 1, 0, none⟩) 32 32, .slice A x.v.length c] 27)).trans ((bel_drew (w3.alloc (.cells #[.slice (some ⟨w.heap.size + 1, 0, none⟩) 32 32, .slice A x.v.length c] 27))).mono (ext_alloc w3 _).size)
  have hR2 := hid ((hR.out w3 (w.heap.size + 1) (hdr.out w3 _ k3) V3.out).bel (bel_drew _))
  have W4 := hid (W3.out.trans (B2.mono W3.out.size))
  clear B2 hR hdr
  go_wp2_with fail
  refine (hO.out _ _ hR2.out).mono ?_
  rintro e w5 ⟨A5, c5, rfl, ho5, hb5⟩
  go_wp2
  go_ret
  have W5 := W4.out.trans (hb5.mono W4.out.size)
  have hrow := RowO.rowLt (RowO.one (E := 27) (B := 0) ho5.repLt (fun b hb => hb) (Nat.zero_le _)) (fun b hb => by rw [World.size_alloc]; exact Nat.lt_succ_of_lt hb)
  exact ⟨_, _, rfl, hrow, Nat.le_refl _, (by decide : 1 ≤ maxLen), W5.trans ((ext_alloc w5 _).mono W5.size)⟩

set_option maxHeartbeats 4000000 in
theorem RFrom_step0 (x : Pf) (A : Option Addr) (c : Nat) (D : Option Addr) (d i : Nat) (F : Nat → Prop) (a s : Dg) (u : List UInt8) (rest : List (List UInt8)) (w : World) (hi : i < x.ss.length) (hs : Row F w D x.ss) (he : x.ss[i] = s) (h256 : x.ss.length ≤ 256) (hr : Rd w A x.v) (hbit : kb x.k.1 i = 0) (hu0 : rest[0]? = some u) (hul : u.length ≤ 3000) (hrl : rest.length ≤ 257) (ha : a.1 = sha256 u)
    (ih : ∀ W, Rd W A x.v → Row F W D x.ss → FromOk x A c D d (i + 1) rest W) : FromOk x A c D d i (tagB 2 [a.1, s.1] :: rest) w := by
  have W0 := ext_alloc w (.cells (pfC x A c D d).toArray 30)
  have B0 := BoxP.new w x A c D d 30
  have hsd := B0.sd
  have hal := hid B0.all
  have hkr := hid B0.key
  have hr0 := hr.bel W0
  have hs0 := hs.bel W0
  obtain ⟨q, o, hD, hside⟩ := row_dgV hs0 hi
  rw [he] at hside
  have hrest := ih _ hr0 hs0
  unfold FromOk at hrest ⊢
  have hAt := fun W => At_any x.k.1 i W x.k.2 (by omega)
  rw [hbit] at hAt
  have hSm := fun W A c (hW : Rd W A u) => Sum_any A c u.length u W hW rfl (by omega)
  rw [← ha] at hSm
  have hlen : (tagB 2 [a.1, s.1]).length ≤ 100000 := tag2_leP 2 (by rw [a.2]; omega) (by rw [s.2]; omega)
  have hO := fun W A hW => RBytes_any 2 A 2 2 [a.1, s.1] W hW rfl (by simp) (by omega)
  have hR := fun W g1 g2 hW hV => rds_two W (some ⟨g1, 0, none⟩) (some ⟨g2, 0, none⟩) 32 32 a.1 s.1 27 hW hV ⟨by rw [a.2]; omega, by unfold maxLen; omega⟩ ⟨by rw [s.2]; omega, by unfold maxLen; omega⟩
  rw [a.2, s.2] at hR
  have hd1 := fun (W : World) (g : Nat) (h : W.heap[g]? = some (.cells (a.1.map bv).toArray 26 (0, 0))) => rd_blockP h
  have hd2 := fun (W : World) (g : Nat) (h : W.heap[g]? = some (.cells (s.1.map bv).toArray 26 (0, 0))) => rd_blockP h
  have hu := Tryz.underlying26
  have hup := Tryz.underlying30
  have hip := hid (sizePfC x A c D d)
  have hik := hid (sizeDg x.k)
  have hia := hid (sizeDg a)
  have his := hid (sizeDg s)
  have za : (a.1.map bv).toArray.size = 32 := by simp [a.2]
  have zs : (s.1.map bv).toArray.size = 32 := by simp [s.2]
  have oa := bvs_all a.1
  have os := bvs_all s.1
  have hsl := run_all32P
  have hii := hid (show (i : Int) ≤ 256 by omega)
  have y1 : IntKind.i64.wrap ((i : Int) + 1) = (i : Int) + 1 := by rw [IntKind.wrap_i64]; omega
  have y2 : ((i : Int) == (x.ss.length : Int)) = false := by rw [beq_eq_false_iff_ne]; omega
  have hrn := hid hrl
  have hb58 := hid (show (1 + rest.length) * (24 + 1) ≤ 140737488355328 by omega)
  have hr00 := hid (show 0 < rest.length from (List.getElem?_eq_some_iff.1 hu0).1)
  have hgu := hid hu0
  replace hrest := hid hrest
  replace hAt := hid hAt
  replace hSm := hid hSm
  replace hO := hid hO
  replace hR := hid hR
  replace hd1 := hid hd1
  replace hd2 := hid hd2
  replace hside := hid hside
  have h256 := hid h256
  clear ih hbit he B0 hs hs0 hr hr0 hlen hu0 ha hrl
  obtain ⟨nl, hnl⟩ : ∃ l, tagB 2 [a.1, s.1] = l := ⟨_, rfl⟩
  rw [hnl] at hO ⊢
  replace hnl := hid hnl
  subst hD
  generalize hnn : x.ss.length = n at *
  generalize pfC x A c (some ⟨q, o, none⟩) d = cs at *
  generalize x.k.1.map bv = dk at *
  generalize hda : a.1.map bv = da at *
  generalize hds : s.1.map bv = ds at *
  replace hda := hid hda
  replace hds := hid hds
  clear hnn
  go_enter Tryz.func39, Tryz.ntmps39
  go_wp2_with (first
    | ((with_reducible refine wpList_load_rng rfl 30 (.tmp 2) rfl w.heap.size 0 rfl cs _ ?_ hup rfl hip.out ?_); exact hal.out))
  generalize w.alloc (.cells cs.toArray 30) = w0 at *
  refine hrest.out.mono ?_
  rintro e w1 ⟨A1, c1, rfl, hR1, hc1, hc1m, hb⟩
  have k1 := hid (rangeBel2 hb hkr.out)
  have s1 := hid (rangeBel2 hb hside.out)
  have d1 := (hb.cell (World.block_lt_of_cell? _ _ hsd)).trans hsd
  have W1 := hid (W0.trans (hb.mono W0.size))
  obtain ⟨b9, o9, hA9, hc9⟩ := hR1.rds hr00.out
  subst hA9
  obtain ⟨A2, c2, hcell, hrd, kc1, kc2⟩ := hc9 0 u hgu.out
  rw [Nat.add_zero] at hcell
  have R1 := hid hR1
  have C1 := hid (show rest.length ≤ c1 ∧ c1 ≤ maxLen from ⟨hc1, hc1m⟩)
  clear hb hkr hside hsd hal hc9 hR1 hc1 hc1m hrest W0
  go_wp2_with fail
  refine (hSm.out _ _ _ hrd).mono ?_
  rintro e w2 ⟨rfl, hb⟩
  have k2 := hid (rangeBel2 hb k1.out)
  have s2 := hid (rangeBel2 hb s1.out)
  have d2 := (hb.cell (World.block_lt_of_cell? _ _ d1)).trans d1
  have W2 := hid (W1.out.trans (hb.mono W1.out.size))
  have R2 := hid (R1.out.bel hb)
  have s12 := hid hb.size
  clear hb k1 s1 d1 W1 R1 hSm hcell hrd
  have e2 := hid (heap_alloc_new w2 (.cells z32 26))
  have qlt := trivial
  go_wp2_with (first
    | (with_reducible refine wpList_alloc_row rfl 26 rfl z32 info32 ?_)
    | ((with_reducible refine wpList_store_row rfl 26 (.tmp 7) (.tmp 39) rfl w2.heap.size _ rfl rfl 26 z32 ?_ ?_ ?_ ?_ ?_); exact e2.out; (rw [za]; exact size32); (rw [za]; exact z32_size); exact oa; intro w3 hg hbS hsS; have X3 := hid (xnewP rfl hbS); have a3 := hid hg; have k3 := hid (rangeBel2 X3.out k2.out); have s3 := hid (rangeBel2 X3.out s2.out); have d3 := (X3.out.cell (World.block_lt_of_cell? _ _ d2)).trans d2; have W3 := hid (W2.out.trans (X3.out.mono W2.out.size)); have R3 := hid (R2.out.bel X3.out); have e3 := hid (heap_alloc_new w3 (.cells z32 26)); have l23 := hid (block_lt hg); clear hg hbS hsS)
    | ((with_reducible refine wpList_load_rng rfl 26 (.tmp 43) rfl q (o + i * 32) rfl ds _ ?_ hu rfl his.out ?_); exact s3.out)
    | ((with_reducible refine wpList_store_row rfl 26 (.tmp 8) (.tmp 44) rfl w3.heap.size _ rfl rfl 26 z32 ?_ ?_ ?_ ?_ ?_); exact e3.out; (rw [zs]; exact size32); (rw [zs]; exact z32_size); exact os; intro w4 hg hbS hsS; have X4 := hid (xnewP rfl hbS); have g4 := hid hg; have a4 := hid ((X4.out.block _ (block_lt a3.out)).trans a3.out); have k4 := hid (rangeBel2 X4.out k3.out); have W4 := hid (W3.out.trans (X4.out.mono W3.out.size)); have R4 := hid (R3.out.bel X4.out); clear hg hbS hsS)
    | ((with_reducible refine wpList_load_rng rfl 26 (.tmp 45) rfl w.heap.size 0 rfl dk _ ?_ hu rfl hik.out ?_); exact k4.out))
  refine (hAt.out _).mono ?_
  rintro e w8 ⟨rfl, hb⟩
  have a8 := (hb.block _ (block_lt a4.out)).trans a4.out
  have g8 := (hb.block _ (block_lt g4.out)).trans g4.out
  have W8 := hid (W4.out.trans (hb.mono W4.out.size))
  have R8 := hid (R4.out.bel hb)
  have nga := hid (show w2.heap.size ≠ w3.heap.size by have := l23.out; omega)
  have wga := hid (show w.heap.size ≤ w2.heap.size from W2.out.size)
  have wgs := hid (show w.heap.size ≤ w3.heap.size from W3.out.size)
  have rga := hid (show w1.heap.size ≤ w2.heap.size from s12.out)
  have rgs := hid (show w1.heap.size ≤ w3.heap.size by have := l23.out; have := s12.out; omega)
  clear hb a3 a4 g4 k2 k3 k4 s2 s3 d2 d3 W2 W3 W4 R2 R3 R4 e2 e3 X3 X4 l23 s12 qlt hAt
  generalize w2.heap.size = ga at *
  generalize w3.heap.size = gs at *
  go_wp2_with (first
    | fail)
  have aF := hid a8
  have gF := hid g8
  have W9 := W8
  have R9 := R8
  have e9 := hid (show w1.heap.size ≤ w8.heap.size from by have := block_lt gF.out; have := rgs.out; omega)
  clear nga wga wgs rga rgs
  refine wp_region_noPanic ?_
  refine wp_region_held_drew (S := fun w' => Below w8.heap.size w8 w') (by kernel_rfl) ?_ (fun hHeld => ?_)
  · exact bel_drew w8
  refine' wpAnyH_take (i := 0) (oi := _) (v := _) rfl (by kernel_rfl) (by kernel_rfl) (by kernel_rfl) (fun _ _ _ h => h) (yieldsIf_slice (by rfl) _ _ _ _ _ rfl _ _ _ _ _ (fun W => run_all32P _ W) rfl rfl rfl rfl) (by assumption) ?_
  try simp only [Act.put, sQa, sQb, sQc, gQa, gQb, gQc]
  refine' wpAnyH_take (i := 1) (oi := _) (v := _) rfl (by kernel_rfl) (by kernel_rfl) (by kernel_rfl) (fun _ _ _ h => h) (yieldsIf_slice (by rfl) _ _ _ _ _ rfl _ _ _ _ _ (fun W => run_all32P _ W) rfl rfl rfl rfl) (by assumption) ?_
  try simp only [Act.put, sQa, sQb, sQc, gQa, gQb, gQc]
  refine' wpAnyH_take (i := 5) (oi := _) (v := ?_) rfl (by kernel_rfl) (by kernel_rfl) (by kernel_rfl) (fun _ _ _ h => h) (Or.inl ⟨by rfl, ?_⟩) (by assumption) ?_
  rotate_left
  · intro W hSw
    go_simp
    first | done | (with_reducible rfl)
  try simp only [Act.put, sQa, sQb, sQc, gQa, gQb, gQc]
  refine wpAnyH_ready (rs := [2]) (by kernel_rfl) (by simp) ?_
  refine AllReadyH.cons (o := _) rfl (fun K hK => ?_) AllReadyH.nil
  go_simp
  have hB2 := ext_alloc w8.drew (.cells #[.slice (some ⟨ga, 0, none⟩) 32 32, .slice (some ⟨gs, 0, none⟩) 32 32] 27)
  refine hK.out _ _ ?_ (fun hHeld => ?_)
  · exact hHeld.trans (hB2.mono hHeld.size)
  clear hK K
  try simp only [Act.put, sQa, sQb, sQc, gQa, gQb, gQc]
  refine wpAnyH_ready (rs := [3]) (by kernel_rfl) (by simp) ?_
  refine AllReadyH.cons (o := _) rfl (fun K hK => ?_) AllReadyH.nil
  go_simp
  refine (hO.out _ _ (hR.out w8.drew ga gs (hd1.out w8.drew ga aF.out) (hd2.out w8.drew gs gF.out))).mono ?_
  rintro e5 w5 ⟨A5, c5, rfl, ho5, hB⟩
  go_wp2_with fail
  refine hK.out _ _ ?_ (fun hHeld => ?_)
  · exact hHeld.trans (hB.mono hHeld.size)
  clear hK K
  try simp only [Act.put, sQa, sQb, sQc, gQa, gQb, gQc]
  refine wpAnyH_ready (rs := [4]) (by kernel_rfl) (by simp) ?_
  refine AllReadyH.cons (o := _) rfl (fun K hK => ?_) AllReadyH.nil
  refine step_buildOne slotBs (by decide) rfl (.tmp 55) rfl [.slice A5 nl.length c5] rfl rfl ?_
  have hB4 := ext_alloc w5 (.cells [Value.slice A5 nl.length c5].toArray 27)
  have own4 := RowO.one (E := 27) (B := w8.heap.size) ho5.repLt (fun b hb => hb) hHeld.size
  have le5 := hHeld.size
  refine hK.out _ _ ?_ (fun hHeld => ?_)
  · exact hHeld.trans (hB4.mono hHeld.size)
  clear hK K
  try simp only [Act.put, sQa, sQb, sQc, gQa, gQb, gQc]
  refine wpAnyH_ready (rs := [6]) (by kernel_rfl) (by simp) ?_
  refine AllReadyH.cons (o := _) rfl (fun K hK => ?_) AllReadyH.nil
  refine step_appR slotBs rfl (.tmp 56) (.tmp 57) rfl (fun b => b < w5.heap.size) w8.heap.size (some ⟨w5.heap.size, 0, none⟩) _ 1 rest.length 1 c1 [nl] rest rfl rfl rfl rfl own4 ((R9.out.bel hHeld).mono (fun b hb _ => Nat.lt_of_lt_of_le (Nat.lt_of_lt_of_le hb e9.out) le5)).src (fun b hb => by rw [World.size_alloc]; exact Nat.lt_succ_of_lt hb) hb58.out hHeld.size ?_
  intro A6 c6 w6 ho6 hB
  refine hK.out _ _ ?_ (fun hHeld => ?_)
  · exact hHeld.trans hB
  clear hK K
  try simp only [Act.put, sQa, sQb, sQc, gQa, gQb, gQc]
  refine' wpAnyH_take (i := 7) (oi := _) (v := ?_) rfl (by kernel_rfl) (by kernel_rfl) (by kernel_rfl) (fun _ _ _ h => h) (Or.inl ⟨by rfl, ?_⟩) (by assumption) ?_
  rotate_left
  · intro W hSw
    go_simp
    first | done | (with_reducible rfl)
  try simp only [Act.put, sQa, sQb, sQc, gQa, gQb, gQc]
  refine wpAnyH_done (by kernel_rfl) ?_ _
  refine NoPanic.normal ?_
  go_wp2
  go_ret
  have hlt6 : w5.heap.size ≤ w6.heap.size := by have := hB.size; rw [World.size_alloc] at this; omega
  exact ⟨A6, c6, rfl, ho6.rowLt (fun b hb => Nat.lt_of_lt_of_le hb hlt6), ho6.cap.1, ho6.cap.2, W9.out.trans (hHeld.mono W9.out.size)⟩

set_option maxHeartbeats 4000000 in
theorem RFrom_step1 (x : Pf) (A : Option Addr) (c : Nat) (D : Option Addr) (d i : Nat) (F : Nat → Prop) (a s : Dg) (u : List UInt8) (rest : List (List UInt8)) (w : World) (hi : i < x.ss.length) (hs : Row F w D x.ss) (he : x.ss[i] = s) (h256 : x.ss.length ≤ 256) (hr : Rd w A x.v) (hbit : kb x.k.1 i = 1) (hu0 : rest[0]? = some u) (hul : u.length ≤ 3000) (hrl : rest.length ≤ 257) (ha : a.1 = sha256 u)
    (ih : ∀ W, Rd W A x.v → Row F W D x.ss → FromOk x A c D d (i + 1) rest W) : FromOk x A c D d i (tagB 2 [s.1, a.1] :: rest) w := by
  have W0 := ext_alloc w (.cells (pfC x A c D d).toArray 30)
  have B0 := BoxP.new w x A c D d 30
  have hsd := B0.sd
  have hal := hid B0.all
  have hkr := hid B0.key
  have hr0 := hr.bel W0
  have hs0 := hs.bel W0
  obtain ⟨q, o, hD, hside⟩ := row_dgV hs0 hi
  rw [he] at hside
  have hrest := ih _ hr0 hs0
  unfold FromOk at hrest ⊢
  have hAt := fun W => At_any x.k.1 i W x.k.2 (by omega)
  rw [hbit] at hAt
  have hSm := fun W A c (hW : Rd W A u) => Sum_any A c u.length u W hW rfl (by omega)
  rw [← ha] at hSm
  have hlen : (tagB 2 [s.1, a.1]).length ≤ 100000 := tag2_leP 2 (by rw [s.2]; omega) (by rw [a.2]; omega)
  have hO := fun W A hW => RBytes_any 2 A 2 2 [s.1, a.1] W hW rfl (by simp) (by omega)
  have hR := fun W g1 g2 hW hV => rds_two W (some ⟨g1, 0, none⟩) (some ⟨g2, 0, none⟩) 32 32 s.1 a.1 27 hW hV ⟨by rw [s.2]; omega, by unfold maxLen; omega⟩ ⟨by rw [a.2]; omega, by unfold maxLen; omega⟩
  rw [s.2, a.2] at hR
  have hd1 := fun (W : World) (g : Nat) (h : W.heap[g]? = some (.cells (s.1.map bv).toArray 26 (0, 0))) => rd_blockP h
  have hd2 := fun (W : World) (g : Nat) (h : W.heap[g]? = some (.cells (a.1.map bv).toArray 26 (0, 0))) => rd_blockP h
  have hu := Tryz.underlying26
  have hup := Tryz.underlying30
  have hip := hid (sizePfC x A c D d)
  have hik := hid (sizeDg x.k)
  have hia := hid (sizeDg a)
  have his := hid (sizeDg s)
  have za : (a.1.map bv).toArray.size = 32 := by simp [a.2]
  have zs : (s.1.map bv).toArray.size = 32 := by simp [s.2]
  have oa := bvs_all a.1
  have os := bvs_all s.1
  have hsl := run_all32P
  have hii := hid (show (i : Int) ≤ 256 by omega)
  have y1 : IntKind.i64.wrap ((i : Int) + 1) = (i : Int) + 1 := by rw [IntKind.wrap_i64]; omega
  have y2 : ((i : Int) == (x.ss.length : Int)) = false := by rw [beq_eq_false_iff_ne]; omega
  have hrn := hid hrl
  have hb58 := hid (show (1 + rest.length) * (24 + 1) ≤ 140737488355328 by omega)
  have hr00 := hid (show 0 < rest.length from (List.getElem?_eq_some_iff.1 hu0).1)
  have hgu := hid hu0
  replace hrest := hid hrest
  replace hAt := hid hAt
  replace hSm := hid hSm
  replace hO := hid hO
  replace hR := hid hR
  replace hd1 := hid hd1
  replace hd2 := hid hd2
  replace hside := hid hside
  have h256 := hid h256
  clear ih hbit he B0 hs hs0 hr hr0 hlen hu0 ha hrl
  obtain ⟨nl, hnl⟩ : ∃ l, tagB 2 [s.1, a.1] = l := ⟨_, rfl⟩
  rw [hnl] at hO ⊢
  replace hnl := hid hnl
  subst hD
  generalize hnn : x.ss.length = n at *
  generalize pfC x A c (some ⟨q, o, none⟩) d = cs at *
  generalize x.k.1.map bv = dk at *
  generalize hda : a.1.map bv = da at *
  generalize hds : s.1.map bv = ds at *
  replace hda := hid hda
  replace hds := hid hds
  clear hnn
  go_enter Tryz.func39, Tryz.ntmps39
  go_wp2_with (first
    | ((with_reducible refine wpList_load_rng rfl 30 (.tmp 2) rfl w.heap.size 0 rfl cs _ ?_ hup rfl hip.out ?_); exact hal.out))
  generalize w.alloc (.cells cs.toArray 30) = w0 at *
  refine hrest.out.mono ?_
  rintro e w1 ⟨A1, c1, rfl, hR1, hc1, hc1m, hb⟩
  have k1 := hid (rangeBel2 hb hkr.out)
  have s1 := hid (rangeBel2 hb hside.out)
  have d1 := (hb.cell (World.block_lt_of_cell? _ _ hsd)).trans hsd
  have W1 := hid (W0.trans (hb.mono W0.size))
  obtain ⟨b9, o9, hA9, hc9⟩ := hR1.rds hr00.out
  subst hA9
  obtain ⟨A2, c2, hcell, hrd, kc1, kc2⟩ := hc9 0 u hgu.out
  rw [Nat.add_zero] at hcell
  have R1 := hid hR1
  have C1 := hid (show rest.length ≤ c1 ∧ c1 ≤ maxLen from ⟨hc1, hc1m⟩)
  clear hb hkr hside hsd hal hc9 hR1 hc1 hc1m hrest W0
  go_wp2_with fail
  refine (hSm.out _ _ _ hrd).mono ?_
  rintro e w2 ⟨rfl, hb⟩
  have k2 := hid (rangeBel2 hb k1.out)
  have s2 := hid (rangeBel2 hb s1.out)
  have d2 := (hb.cell (World.block_lt_of_cell? _ _ d1)).trans d1
  have W2 := hid (W1.out.trans (hb.mono W1.out.size))
  have R2 := hid (R1.out.bel hb)
  have s12 := hid hb.size
  clear hb k1 s1 d1 W1 R1 hSm hcell hrd
  have e2 := hid (heap_alloc_new w2 (.cells z32 26))
  have qlt := trivial
  go_wp2_with (first
    | (with_reducible refine wpList_alloc_row rfl 26 rfl z32 info32 ?_)
    | ((with_reducible refine wpList_store_row rfl 26 (.tmp 7) (.tmp 39) rfl w2.heap.size _ rfl rfl 26 z32 ?_ ?_ ?_ ?_ ?_); exact e2.out; (rw [za]; exact size32); (rw [za]; exact z32_size); exact oa; intro w3 hg hbS hsS; have X3 := hid (xnewP rfl hbS); have a3 := hid hg; have k3 := hid (rangeBel2 X3.out k2.out); have s3 := hid (rangeBel2 X3.out s2.out); have d3 := (X3.out.cell (World.block_lt_of_cell? _ _ d2)).trans d2; have W3 := hid (W2.out.trans (X3.out.mono W2.out.size)); have R3 := hid (R2.out.bel X3.out); have e3 := hid (heap_alloc_new w3 (.cells z32 26)); have l23 := hid (block_lt hg); clear hg hbS hsS)
    | ((with_reducible refine wpList_load_rng rfl 26 (.tmp 43) rfl q (o + i * 32) rfl ds _ ?_ hu rfl his.out ?_); exact s3.out)
    | ((with_reducible refine wpList_store_row rfl 26 (.tmp 8) (.tmp 44) rfl w3.heap.size _ rfl rfl 26 z32 ?_ ?_ ?_ ?_ ?_); exact e3.out; (rw [zs]; exact size32); (rw [zs]; exact z32_size); exact os; intro w4 hg hbS hsS; have X4 := hid (xnewP rfl hbS); have g4 := hid hg; have a4 := hid ((X4.out.block _ (block_lt a3.out)).trans a3.out); have k4 := hid (rangeBel2 X4.out k3.out); have W4 := hid (W3.out.trans (X4.out.mono W3.out.size)); have R4 := hid (R3.out.bel X4.out); clear hg hbS hsS)
    | ((with_reducible refine wpList_load_rng rfl 26 (.tmp 45) rfl w.heap.size 0 rfl dk _ ?_ hu rfl hik.out ?_); exact k4.out))
  refine (hAt.out _).mono ?_
  rintro e w8 ⟨rfl, hb⟩
  have a8 := (hb.block _ (block_lt a4.out)).trans a4.out
  have g8 := (hb.block _ (block_lt g4.out)).trans g4.out
  have W8 := hid (W4.out.trans (hb.mono W4.out.size))
  have R8 := hid (R4.out.bel hb)
  have nga := hid (show w2.heap.size ≠ w3.heap.size by have := l23.out; omega)
  have wga := hid (show w.heap.size ≤ w2.heap.size from W2.out.size)
  have wgs := hid (show w.heap.size ≤ w3.heap.size from W3.out.size)
  have rga := hid (show w1.heap.size ≤ w2.heap.size from s12.out)
  have rgs := hid (show w1.heap.size ≤ w3.heap.size by have := l23.out; have := s12.out; omega)
  clear hb a3 a4 g4 k2 k3 k4 s2 s3 d2 d3 W2 W3 W4 R2 R3 R4 e2 e3 X3 X4 l23 s12 qlt hAt
  generalize w2.heap.size = ga at *
  generalize w3.heap.size = gs at *
  go_wp2_with (first
    | fail
    | ((with_reducible refine wpList_load_rng rfl 26 (.tmp 8) rfl gs 0 rfl ds _ ?_ hu rfl his.out ?_); exact rangeOf g8)
    | ((with_reducible refine wpList_load_rng rfl 26 (.tmp 7) rfl ga 0 rfl da _ ?_ hu rfl hia.out ?_); exact rangeOf a8)
    | ((with_reducible refine wpList_store_row rfl 26 (.tmp 7) (.tmp 50) rfl ga _ rfl rfl 26 da.toArray ?_ ?_ ?_ ?_ ?_); exact a8; (rw [zs]; exact size32); (rw [za, zs]); exact os; intro w8b hg hb9 hs9; have aa9 := hid hg; have gg9 := hid ((hb9.block _ (block_lt g8) (by intro e; injection e with e; exact nga.out e.symm)).trans g8); have WW9 := hid (W8.out.grown hb9 W8.out.size (fun g e => by injection e with e; rw [← e]; exact wga.out)); have RR9 := hid (R8.out.chg (Chg.of_grown hb9) (fun b hb _ e => by injection e with e; have := rga.out; omega)); clear hg hb9 hs9)
    | ((with_reducible refine wpList_store_row rfl 26 (.tmp 8) (.tmp 51) rfl gs _ rfl rfl 26 ds.toArray ?_ ?_ ?_ ?_ ?_); exact gg9.out; (rw [za]; exact size32); (rw [za, zs]); exact oa; intro w9 hg hb9 hs9; have gF := hid hg; have aF := hid ((hb9.block _ (block_lt aa9.out) (by intro e; injection e with e; exact nga.out e)).trans aa9.out); have W9 := hid (WW9.out.grown hb9 WW9.out.size (fun g e => by injection e with e; rw [← e]; exact wgs.out)); have R9 := hid (RR9.out.chg (Chg.of_grown hb9) (fun b hb _ e => by injection e with e; have := rgs.out; omega)); clear hg hb9 hs9))
  have e9 := hid (show w1.heap.size ≤ w9.heap.size from by have := block_lt gF.out; have := rgs.out; omega)
  clear nga wga wgs rga rgs
  refine wp_region_noPanic ?_
  refine wp_region_held_drew (S := fun w' => Below w9.heap.size w9 w') (by kernel_rfl) ?_ (fun hHeld => ?_)
  · exact bel_drew w9
  refine' wpAnyH_take (i := 0) (oi := _) (v := _) rfl (by kernel_rfl) (by kernel_rfl) (by kernel_rfl) (fun _ _ _ h => h) (yieldsIf_slice (by rfl) _ _ _ _ _ rfl _ _ _ _ _ (fun W => run_all32P _ W) rfl rfl rfl rfl) (by assumption) ?_
  try simp only [Act.put, sQa, sQb, sQc, gQa, gQb, gQc]
  refine' wpAnyH_take (i := 1) (oi := _) (v := _) rfl (by kernel_rfl) (by kernel_rfl) (by kernel_rfl) (fun _ _ _ h => h) (yieldsIf_slice (by rfl) _ _ _ _ _ rfl _ _ _ _ _ (fun W => run_all32P _ W) rfl rfl rfl rfl) (by assumption) ?_
  try simp only [Act.put, sQa, sQb, sQc, gQa, gQb, gQc]
  refine' wpAnyH_take (i := 5) (oi := _) (v := ?_) rfl (by kernel_rfl) (by kernel_rfl) (by kernel_rfl) (fun _ _ _ h => h) (Or.inl ⟨by rfl, ?_⟩) (by assumption) ?_
  rotate_left
  · intro W hSw
    go_simp
    first | done | (with_reducible rfl)
  try simp only [Act.put, sQa, sQb, sQc, gQa, gQb, gQc]
  refine wpAnyH_ready (rs := [2]) (by kernel_rfl) (by simp) ?_
  refine AllReadyH.cons (o := _) rfl (fun K hK => ?_) AllReadyH.nil
  go_simp
  have hB2 := ext_alloc w9.drew (.cells #[.slice (some ⟨ga, 0, none⟩) 32 32, .slice (some ⟨gs, 0, none⟩) 32 32] 27)
  refine hK.out _ _ ?_ (fun hHeld => ?_)
  · exact hHeld.trans (hB2.mono hHeld.size)
  clear hK K
  try simp only [Act.put, sQa, sQb, sQc, gQa, gQb, gQc]
  refine wpAnyH_ready (rs := [3]) (by kernel_rfl) (by simp) ?_
  refine AllReadyH.cons (o := _) rfl (fun K hK => ?_) AllReadyH.nil
  go_simp
  refine (hO.out _ _ (hR.out w9.drew ga gs (hd1.out w9.drew ga aF.out) (hd2.out w9.drew gs gF.out))).mono ?_
  rintro e5 w5 ⟨A5, c5, rfl, ho5, hB⟩
  go_wp2_with fail
  refine hK.out _ _ ?_ (fun hHeld => ?_)
  · exact hHeld.trans (hB.mono hHeld.size)
  clear hK K
  try simp only [Act.put, sQa, sQb, sQc, gQa, gQb, gQc]
  refine wpAnyH_ready (rs := [4]) (by kernel_rfl) (by simp) ?_
  refine AllReadyH.cons (o := _) rfl (fun K hK => ?_) AllReadyH.nil
  refine step_buildOne slotBs (by decide) rfl (.tmp 55) rfl [.slice A5 nl.length c5] rfl rfl ?_
  have hB4 := ext_alloc w5 (.cells [Value.slice A5 nl.length c5].toArray 27)
  have own4 := RowO.one (E := 27) (B := w9.heap.size) ho5.repLt (fun b hb => hb) hHeld.size
  have le5 := hHeld.size
  refine hK.out _ _ ?_ (fun hHeld => ?_)
  · exact hHeld.trans (hB4.mono hHeld.size)
  clear hK K
  try simp only [Act.put, sQa, sQb, sQc, gQa, gQb, gQc]
  refine wpAnyH_ready (rs := [6]) (by kernel_rfl) (by simp) ?_
  refine AllReadyH.cons (o := _) rfl (fun K hK => ?_) AllReadyH.nil
  refine step_appR slotBs rfl (.tmp 56) (.tmp 57) rfl (fun b => b < w5.heap.size) w9.heap.size (some ⟨w5.heap.size, 0, none⟩) _ 1 rest.length 1 c1 [nl] rest rfl rfl rfl rfl own4 ((R9.out.bel hHeld).mono (fun b hb _ => Nat.lt_of_lt_of_le (Nat.lt_of_lt_of_le hb e9.out) le5)).src (fun b hb => by rw [World.size_alloc]; exact Nat.lt_succ_of_lt hb) hb58.out hHeld.size ?_
  intro A6 c6 w6 ho6 hB
  refine hK.out _ _ ?_ (fun hHeld => ?_)
  · exact hHeld.trans hB
  clear hK K
  try simp only [Act.put, sQa, sQb, sQc, gQa, gQb, gQc]
  refine' wpAnyH_take (i := 7) (oi := _) (v := ?_) rfl (by kernel_rfl) (by kernel_rfl) (by kernel_rfl) (fun _ _ _ h => h) (Or.inl ⟨by rfl, ?_⟩) (by assumption) ?_
  rotate_left
  · intro W hSw
    go_simp
    first | done | (with_reducible rfl)
  try simp only [Act.put, sQa, sQb, sQc, gQa, gQb, gQc]
  refine wpAnyH_done (by kernel_rfl) ?_ _
  refine NoPanic.normal ?_
  go_wp2
  go_ret
  have hlt6 : w5.heap.size ≤ w6.heap.size := by have := hB.size; rw [World.size_alloc] at this; omega
  exact ⟨A6, c6, rfl, ho6.rowLt (fun b hb => Nat.lt_of_lt_of_le hb hlt6), ho6.cap.1, ho6.cap.2, W9.out.trans (hHeld.mono W9.out.size)⟩

theorem may_e {x : Pf} (h : mayF x = true) : x.e = 0 ∨ x.e = 1 ∨ x.e = 2 := by
  by_cases h0 : x.e = 0
  · exact .inl h0
  by_cases h1 : x.e = 1
  · exact .inr (.inl h1)
  by_cases h2 : x.e = 2
  · exact .inr (.inr h2)
  unfold mayF endP at h
  rw [if_neg h0, if_neg h1, if_neg h2, Bool.and_false] at h
  cases h
theorem RFrom_any (x : Pf) (A : Option Addr) (c : Nat) (D : Option Addr) (d : Nat) (F : Nat → Prop) (he : x.e = 0 ∨ x.e = 1 ∨ x.e = 2) (h1 : x.v.length ≤ c) (h2 : c ≤ maxLen) (hl : x.v.length ≤ 1000) (h256 : x.ss.length ≤ 256) : ∀ (m i : Nat) (w : World), i + m = x.ss.length → Rd w A x.v → Row F w D x.ss → FromOk x A c D d i (inL x i (x.ss.drop i)) w
  | 0, i, w, hi, hr, hs => by
    obtain rfl : i = x.ss.length := by omega
    rw [inL_end]
    rcases he with h | h | h
    · exact RFrom_none x A c D d w h256 h
    · exact RFrom_own x A c D d w hr h1 h2 hl h256 h
    · exact RFrom_other x A c D d w hr h1 h2 hl h256 h
  | m + 1, i, w, hi, hr, hs => by
    have hlt : i < x.ss.length := by omega
    rw [inL_drop x i hlt]
    have hrl : (inL x (i + 1) (x.ss.drop (i + 1))).length ≤ 257 := by rw [inL_length, List.length_drop]; omega
    have hul := inL_head_le x hl (i + 1) (x.ss.drop (i + 1))
    have hu0 : (inL x (i + 1) (x.ss.drop (i + 1)))[0]? = some ((inL x (i + 1) (x.ss.drop (i + 1))).headD []) := by
      cases hq : inL x (i + 1) (x.ss.drop (i + 1)) with
      | nil => exact absurd hq (inL_ne _ _ _)
      | cons v t => rfl
    have ih := fun W hW hV => RFrom_any x A c D d F he h1 h2 hl h256 m (i + 1) W (by omega) hW hV
    generalize inL x (i + 1) (x.ss.drop (i + 1)) = rest at *
    obtain ⟨a, ha⟩ : ∃ a : Dg, a.1 = sha256 (rest.headD []) := ⟨⟨sha256 (rest.headD []), shaLen _⟩, rfl⟩
    rw [← ha]
    unfold forkI
    rw [bitV_at x.k.1 (by omega)]
    have hb := kb_lt x.k.1 i
    rcases (show kb x.k.1 i = 0 ∨ kb x.k.1 i = 1 by omega) with hk | hk
    · rw [if_pos hk]
      exact RFrom_step0 x A c D d i F a _ _ rest w hlt hs rfl h256 hr hk hu0 hul hrl ha ih
    · rw [if_neg (by omega)]
      exact RFrom_step1 x A c D d i F a _ _ rest w hlt hs rfl h256 hr hk hu0 hul hrl ha ih
end Go.Proofs.YtapnhdpgogfceaaGreatDoor
