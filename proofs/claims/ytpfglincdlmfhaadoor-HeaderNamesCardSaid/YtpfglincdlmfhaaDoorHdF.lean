/-
  Contracts of the landed package header: fields, Bytes.
-/
import Derived.Test.YtpfglincdlmfhaaDoorHdM
import Derived.Test.YtpfglincdlmfhaaDoorHdJ
import Derived.Test.YtpfglincdlmfhaaDoorSls
import Derived.Test.YtpfglincdlmfhaaDoorInW
import Derived.Test.YtpfglincdlmfhaaDoorTagX
namespace Go.Proofs.YtpfglincdlmfhaaDoor
open Go.RowKit
set_option linter.unusedVariables false
set_option linter.unusedSimpArgs false
set_option maxRecDepth 100000

/-! ### three digests in one block -/
def z96 : Array Value := ((List.replicate 96 (0 : UInt8)).map bv).toArray
theorem infoDgs : (Tryd.prog.info? 53).map (fun i => (i.zero, i.size)) = some (some (.agg z96), z96.size) := by kernel_rfl
theorem size96 : (Tryd.prog.info? 53).map (·.size) = some 96 := by kernel_rfl
theorem z96_size : z96.size = 96 := by decide +kernel
def dgsC (ds : List Dg) : List Value := (ds.map fun d => d.1.map bv).flatten
theorem dgsC_len (ds : List Dg) : (dgsC ds).length = 32 * ds.length := by
  unfold dgsC
  induction ds with
  | nil => rfl
  | cons d ds ih => simp only [List.map_cons, List.flatten_cons, List.length_append, List.length_map, d.2, ih, List.length_cons]; omega
theorem dgsC_one (ds : List Dg) : (dgsC ds).toArray.all (·.oneCell') = true := all_oneCell_toArray fun v hv => by
  unfold dgsC at hv
  rw [List.mem_flatten] at hv
  obtain ⟨l, hl, hv⟩ := hv
  obtain ⟨d, -, rfl⟩ := List.mem_map.1 hl
  exact bvs_one _ v hv
theorem range_dgs {W : World} {g : Nat} {ds : List Dg} (h : W.rangeAt g 0 (dgsC ds)) {j : Nat} (hj : j < ds.length) : W.rangeAt g (32 * j) (ds[j].1.map bv) := by
  have h1 := range_seg (ds.map fun d => d.1.map bv) 0 j (by simpa using hj) h
  have h2 := dgsC_len (ds.take j)
  unfold dgsC at h2
  rw [List.length_take, Nat.min_eq_left (Nat.le_of_lt hj), List.map_take] at h2
  rw [h2, Nat.zero_add, List.getElem_map] at h1
  exact h1
theorem built_dgs (a b c : Dg) : Tryd.prog.built 53 [(0, .agg (a.1.map bv).toArray), (1, .agg (b.1.map bv).toArray), (2, .agg (c.1.map bv).toArray)] = some (dgsC [a, b, c]).toArray := by
  have h1 := infoDgs
  have h2 := info32
  have hu := Tryd.underlying53
  unfold Program.built
  cases hi : Tryd.prog.info? 53 with
  | none => rw [hi] at h1; cases h1
  | some it =>
    cases he : Tryd.prog.info? 23 with
    | none => rw [he] at h2; cases h2
    | some ie =>
      rw [hi] at h1
      rw [he] at h2
      simp at h1 h2
      rw [hu]
      simp only
      rw [he, h1.1]
      simp only
      have hs : ie.size = 32 := by rw [h2.2, z32_size]
      rw [hs]
      have lz : ∀ d : Dg, (d.1.map bv).length = 32 := len_dgv
      have h3 := fill_all (place := fun i => some (i * 32, 32)) [z0.1.map bv, z0.1.map bv, z0.1.map bv] [.agg (a.1.map bv).toArray, .agg (b.1.map bv).toArray, .agg (c.1.map bv).toArray] 0 [] (by
        refine ⟨?_, ?_, ?_, ?_, ?_, ?_, trivial⟩ <;> simp [lz, Value.cells])
      exact h3
/-- A block of another type than the row's is not the row's. -/
theorem ownQ_far {α : Type} [Enc α] {E : TypeId} {w : World} {B0 B : Nat} {A : Option Addr} {c : Nat} {xs : List α} (h : OwnQ E w B0 B A c xs) {b : Nat} {cs : Array Value} {T : TypeId} {fz : Nat × Nat} (hb : w.heap[b]? = some (.cells cs T fz)) (hT : T ≠ E) : ∀ a, A = some a → b ≠ a.block := by
  rintro a rfl e
  obtain ⟨F, h1, -⟩ := h
  obtain ⟨cur, -, h2⟩ := h1.form a rfl
  rw [← e, hb] at h2
  injection h2 with h2
  injection h2 with _ h3 _
  exact hT h3
theorem ne_map2 {A : Option Addr} {b : Nat} (h : ∀ a, A = some a → b ≠ a.block) : some b ≠ A.map (·.block) := fun e => by
  rcases A with _ | a
  · cases e
  · simp only [Option.map_some, Option.some.injEq] at e
    exact h a rfl e
/-- Own bytes lie in a block of bytes. -/
theorem Own.blockT {E : TypeId} {w : World} {B : Nat} {A : Option Addr} {c : Nat} {l : List UInt8} (h : Own E w B A c l) : ∀ a, A = some a → B ≤ a.block ∧ ∃ cur, w.heap[a.block]? = some (.cells cur E (0, 0)) := by
  rintro a rfl
  rcases h.2 with ⟨hv, _⟩ | ⟨g, cap, cur, hv, hb, hg, _⟩
  · injection hv with h1 _ _; cases h1
  · injection hv with h1 _ _
    injection h1 with h1
    subst h1
    exact ⟨hb, cur, hg⟩
theorem Own.keptQ {α : Type} [Enc α] {E E2 : TypeId} {w w' : World} {B0 B B2 : Nat} {A A2 : Option Addr} {c c2 : Nat} {l : List UInt8} {xs : List α} (h : Own E2 w B2 A2 c2 l) (hQ : OwnQ E w B0 B A c xs) (hT : E2 ≠ E) (hg : w.grownBy w' (A.map (·.block))) : Own E2 w' B2 A2 c2 l :=
  h.kept hg fun a ha => ne_map2 (ownQ_far hQ (h.blockT a ha).2.choose_spec hT)
/-- A slice of one slice, just laid: the call's own. -/
theorem wpList_buildOwn1 {w : World} {ops : Array Oper} {rest : List Oper} {o : Oper} {a : Act} {Q : Exit → Act → World → Prop} (hg : Region.wanted o (yielded ops a.tmps) = true) (x : Operand) (hop : o.op = .buildSlice 55 1 #[(0, x)]) (A : Option Addr) (n c B : Nat) (l : List UInt8) (hx : a.eval x = .slice A n c) (hn : n = l.length)
    (h : Own 5 w B A c l) (hB : B ≤ w.heap.size)
    (hK : ∀ g w', w.heap.size = g → OwnR 29 w' B (some ⟨g, 0, none⟩) 1 [l] → Below w.heap.size w w' → wpList Tryd.prog ops Q rest (a.put o.dst (.slice (some ⟨g, 0, none⟩) 1 1)) w') : wpList Tryd.prog ops Q (o :: rest) a w := by
  subst hn
  refine wpList_buildOne slotSlX (by decide) hg x hop [.slice A l.length c] (by rw [hx]; rfl) rfl (hK _ _ rfl ?_ (ext_alloc _ _))
  exact OwnR.one (F := fun b => ∃ a, A = some a ∧ b = a.block) ⟨A, c, rfl, h.cap.1, h.cap.2, h.rd.row fun a ha _ => ⟨a, ha, rfl⟩⟩ (by rintro b ⟨a, ha, rfl⟩; exact h.soft a ha) hB
theorem wpList_buildSrc1 {w : World} {ops : Array Oper} {rest : List Oper} {o : Oper} {a : Act} {Q : Exit → Act → World → Prop} (hg : Region.wanted o (yielded ops a.tmps) = true) (x : Operand) (hop : o.op = .buildSlice 55 1 #[(0, x)]) (A : Option Addr) (n c : Nat) (l : List UInt8) (hx : a.eval x = .slice A n c) (hn : n = l.length)
    (h : Rd w A l) (hc : l.length ≤ c ∧ c ≤ maxLen)
    (hK : ∀ g w', w.heap.size = g → Src (fun b => ∃ a, A = some a ∧ b = a.block) w' (some ⟨g, 0, none⟩) [l] → Below w.heap.size w w' → wpList Tryd.prog ops Q rest (a.put o.dst (.slice (some ⟨g, 0, none⟩) 1 1)) w') : wpList Tryd.prog ops Q (o :: rest) a w := by
  subst hn
  refine wpList_buildOne slotSlX (by decide) hg x hop [.slice A l.length c] (by rw [hx]; rfl) rfl (hK _ _ rfl ?_ (ext_alloc _ _))
  exact src_alloc ⟨A, c, rfl, hc.1, hc.2, h.row fun a ha _ => ⟨a, ha, rfl⟩⟩
theorem block_far {α : Type} [Enc α] {E T : TypeId} {w : World} {B0 B g o : Nat} {A : Option Addr} {c : Nat} {xs : List α} {cs : Array Value} (hq : w.heap[g]? = some (.cells cs T (0, 0))) (ho : OwnQ E w B0 B A c xs) (hT : T ≠ E) (hB : B0 ≤ g) : ∀ b, (∃ a, (some ⟨g, o, none⟩ : Option Addr) = some a ∧ b = a.block) → B0 ≤ b ∧ Soft w b ∧ ∀ a, A = some a → b ≠ a.block := by
  rintro b ⟨a, ha, rfl⟩
  injection ha with ha
  subst ha
  exact ⟨hB, ⟨cs, T, hq⟩, ownQ_far ho hq hT⟩
theorem own_far {α : Type} [Enc α] {E E2 : TypeId} {w : World} {B0 B : Nat} {A A2 : Option Addr} {c c2 : Nat} {l : List UInt8} {xs : List α} (hy : Own E2 w B0 A2 c2 l) (ho : OwnQ E w B0 B A c xs) (hT : E2 ≠ E) : ∀ b, (∃ a, A2 = some a ∧ b = a.block) → B0 ≤ b ∧ Soft w b ∧ ∀ a, A = some a → b ≠ a.block := by
  rintro b ⟨a, ha, rfl⟩
  obtain ⟨h1, cur, h2⟩ := hy.blockT a ha
  exact ⟨h1, ⟨cur, E2, h2⟩, ownQ_far ho h2 hT⟩
theorem tNeSlD : (53 : TypeId) ≠ 29 := by decide

def partsH (x : Hd) : List (List UInt8) := [be 8 x.h.toNat, x.p.1, x.s.1, x.r.1, be 4 x.m.toNat]
theorem partsH_flat (x : Hd) : (partsH x).flatten = hdB x := by simp [partsH, hdB]
set_option maxHeartbeats 4000000 in
theorem PHdFields_any (x : Hd) (hm : mayH x = true) (w : World) : Calls Tryd.prog 26 #[.agg (hdC x).toArray] w fun e w' => ∃ A c, e = .returned (.slice A 5 c) ∧ Rds w' A (partsH x) ∧ Below w.heap.size w w' := by
  have hux := Tryd.underlying25
  have hu := Tryd.underlying23
  have hug := Tryd.underlying53
  have hsl := run_all32P
  obtain ⟨a1, a2, a3, a4⟩ := mayH_iff.1 hm
  have B0 := BoxH.new w x 25
  have W0 := hid (ext_alloc w (.cells (hdC x).toArray 25))
  have c0 := B0.h
  have c1 := hid B0.m
  have R1 := hid B0.p
  have R2 := hid B0.s
  have R3 := hid B0.r
  have wh : IntKind.u64.wrap x.h = x.h := by rw [IntKind.wrap_u64]; omega
  have wm : IntKind.u64.wrap x.m = x.m := by rw [IntKind.wrap_u64]; omega
  have p1 : putE x.h.toNat 8 = 0 := by unfold putE; rw [if_pos (by decide)]; exact if_pos (by show _ < 256 ^ 8; omega)
  have p2 : putE x.m.toNat 4 = 0 := by unfold putE; rw [if_pos (by decide)]; exact if_pos (by show _ < 256 ^ 4; omega)
  have d1 := hid (fun W => Put_is x.h.toNat x.h 8 (be 8 x.h.toNat) 0 W (by omega) (by omega) (by unfold putB; rw [if_pos p1]; rfl) p1)
  have d2 := hid (fun W => Put_is x.m.toNat x.m 4 (be 4 x.m.toNat) 0 W (by omega) (by omega) (by unfold putB; rw [if_pos p2]; rfl) p2)
  have l1 := be_length 8 x.h.toNat
  have l2 := be_length 4 x.m.toNat
  have hP : partsH x = (be 8 x.h.toNat :: [x.p.1, x.s.1, x.r.1]) ++ [be 4 x.m.toNat] := rfl
  have s1 := hid (len_dgv x.p)
  have bl := hid (built_dgs x.p x.s x.r)
  have jx : ∀ d : Dg, (Tryd.prog.info? 23).map (·.size) = some (d.1.map bv).length := fun d => by rw [List.length_map, d.2]; exact size32
  have j1 := hid (jx x.p)
  have j2 := hid (jx x.s)
  have j3 := hid (jx x.r)
  rw [hP]
  clear B0 hP p1 p2 a1 a2 a3 a4 hm jx
  rw [l1] at d1
  rw [l2] at d2
  generalize be 8 x.h.toNat = y1 at *
  generalize be 4 x.m.toNat = y2 at *
  obtain ⟨ds, hds⟩ : ∃ ds, [x.p, x.s, x.r] = ds := ⟨_, rfl⟩
  rw [hds] at bl
  have us : [x.p.1, x.s.1, x.r.1] = ds.map (·.1) := by rw [← hds]; rfl
  have hdl : ds.length = 3 := by rw [← hds]; rfl
  rw [us]
  have zs := hid (show (Tryd.prog.info? 53).map (·.size) = some (dgsC ds).toArray.size by rw [List.size_toArray, dgsC_len, hdl]; exact size96)
  have zz := hid (show z96.size = (dgsC ds).toArray.size from z96_size.trans (by rw [List.size_toArray, dgsC_len, hdl]))
  have zo := hid (dgsC_one ds)
  clear us hds
  generalize hdC x = cx at *
  generalize x.h = vh at *
  generalize x.m = vm at *
  generalize x.p.1.map bv = cp at *
  generalize x.s.1.map bv = cs at *
  generalize x.r.1.map bv = cr at *
  replace hdl := hid hdl
  go_enter Tryd.func26, Tryd.ntmps26
  go_wp2_with fail
  refine (d1.out _).mono ?_
  rintro e w2 ⟨A1, k1, rfl, o1, hb⟩
  have W2 := hid (W0.out.trans (hb.mono W0.out.size))
  replace o1 := hid (o1.base (B' := w.heap.size) W0.out.size)
  have c2 := (hb.cell (World.block_lt_of_cell? _ _ c1.out)).trans c1.out
  replace R1 := hid (rangeBel2 hb R1.out)
  replace R2 := hid (rangeBel2 hb R2.out)
  replace R3 := hid (rangeBel2 hb R3.out)
  clear hb c1 c0
  go_wp2_with fail
  refine (d2.out _).mono ?_
  rintro e w3 ⟨A2, k2, rfl, o2, hb⟩
  replace o2 := hid (o2.base (B' := w.heap.size) W2.out.size)
  have W3 := hid (W2.out.trans (hb.mono W2.out.size))
  replace o1 := hid (o1.out.bel hb)
  replace R1 := hid (rangeBel2 hb R1.out)
  replace R2 := hid (rangeBel2 hb R2.out)
  replace R3 := hid (rangeBel2 hb R3.out)
  clear hb c2
  go_wp2_with (first
    | ((with_reducible refine wpList_buildOwn1 rfl (.tmp 24) rfl A1 8 k1 w.heap.size y1 rfl l1.symm o1.out W3.out.size ?_); intro g4 w4 hg4 o4 b4; replace o4 := hid o4; have W4 := hid (W3.out.trans (b4.mono W3.out.size)); have q1 := hid (rangeBel2 b4 R1.out); have q2 := hid (rangeBel2 b4 R2.out); have q3 := hid (rangeBel2 b4 R3.out); have y4 := hid (o2.out.bel b4); clear b4)
    | ((with_reducible refine wpList_load_rng rfl 23 (.tmp 26) rfl w.heap.size 1 rfl cp _ ?_ hu rfl j1.out ?_); exact q1.out)
    | ((with_reducible refine wpList_load_rng rfl 23 (.tmp 28) rfl w.heap.size 33 rfl cs _ ?_ hu rfl j2.out ?_); exact q2.out)
    | ((with_reducible refine wpList_load_rng rfl 23 (.tmp 30) rfl w.heap.size 65 rfl cr _ ?_ hu rfl j3.out ?_); exact q3.out)
    | ((with_reducible refine wpList_built rfl 53 _ rfl (dgsC ds).toArray [(0, .agg cp.toArray), (1, .agg cs.toArray), (2, .agg cr.toArray)] ?_ ?_ ?_); exact bl.out; rfl)
    | ((with_reducible refine wpList_alloc_row rfl 53 rfl z96 infoDgs ?_); have e4 := hid (heap_alloc_new w4 (.cells z96 53)))
    | ((with_reducible refine wpList_store_row rfl 53 (.tmp 8) (.tmp 32) rfl w4.heap.size _ rfl rfl 53 z96 ?_ ?_ ?_ ?_ ?_); exact e4.out; exact zs.out; exact zz.out; exact zo.out; intro w5 hgS hbS hsS; have X5 := hid (xnewP rfl hbS); have q5 := hid hgS; clear hgS hbS hsS))
  have W5 := hid (W4.out.trans (X5.out.mono W4.out.size))
  have o5 := hid (o4.out.bel X5.out)
  have y5 := hid (y4.out.bel X5.out)
  have hwg := hid (show w.heap.size ≤ w4.heap.size from W4.out.size)
  clear R1 R2 R3 q1 q2 q3 e4 o4 y4 X5 W4 o2 o1 W2 W3 W0 d1 d2 j1 j2 j3 bl zs zz zo s1
  go_loopw [7, 33] (fun v i wr => ∃ (j : Nat) (A' : Option Addr) (c' : Nat), j ≤ 3 ∧ i = .int .i64 j ∧ v = .slice A' (y1 :: (ds.take j).map (·.1)).length c' ∧ OwnR 29 wr w.heap.size A' c' (y1 :: (ds.take j).map (·.1)) ∧ Below w.heap.size w wr ∧ wr.heap[w4.heap.size]? = some (.cells (dgsC ds).toArray 53 (0, 0)) ∧ Own 5 wr w.heap.size A2 k2 y2) (fun _ i _ => 3 - (intOf i).toNat)
  case atStart => exact ⟨0, some ⟨g4, 0, none⟩, 1, Nat.zero_le _, rfl, rfl, o5.out, W5.out, q5.out, y5.out⟩
  case round =>
    clear o5 W5 q5 y5
    obtain ⟨j, A', c', hj, rfl, rfl, ho, hb, hq, hy⟩ := hrel
    by_cases hlt : j < 3
    · have hlt2 : (j : Int) < 3 := by omega
      have hj3 : j < ds.length := by rw [hdl.out]; exact hlt
      have E := hid (show y1 :: (ds.take (j + 1)).map (·.1) = (y1 :: (ds.take j).map (·.1)) ++ [ds[j].1] by rw [List.take_succ_eq_append_getElem hj3, List.map_append]; rfl)
      have rj := rd_keyP (range_dgs (rangeOf hq) hj3)
      rw [Nat.mul_comm] at rj
      replace rj := hid rj
      have lx : (y1 :: (ds.take j).map (·.1)).length ≤ 4 := by simp; omega
      generalize hz : y1 :: (ds.take (j + 1)).map (·.1) = z at *
      replace hz := hid hz
      have ld := ds[j].2
      generalize ds[j].1 = d at *
      generalize y1 :: (ds.take j).map (·.1) = xs at *
      replace lx := hid lx
      replace hq := hid hq
      replace hy := hid hy
      have hbs := hid hb.size
      have B0 := hid hb
      have hw4 := hid hwg.out
      replace ho := hid ho
      clear hb
      go_wp2_with (first
        | ((with_reducible refine wpList_buildSrc1 rfl (.tmp 39) rfl (some ⟨w4.heap.size, j * 32, none⟩) 32 32 d rfl ld.symm rj.out ⟨Nat.le_of_eq ld, (by decide : 32 ≤ maxLen)⟩ ?_); intro g6 w6 hg6 s6 b6; replace s6 := hid s6; have h6 := hid (ho.out.bel b6); have B6 := hid (B0.out.trans (b6.mono hbs.out)); have q6 := hid ((b6.block _ (block_lt hq.out)).trans hq.out); have y6 := hid (hy.out.bel b6); clear b6)
        | (at_builtin; refine wpList_appOwnG slotSlX rfl (.tmp 36) (.tmp 40) rfl w.heap.size w.heap.size A' (some ⟨g6, 0, none⟩) xs.length 1 c' 1 xs [d] _ rfl rfl rfl rfl h6.out s6.out (block_far q6.out h6.out tNeSlD hw4.out) (by have := lx.out; simp; omega) B6.out.size ?_; intro A7 c7 w7 ho7 hb7 hg7; rw [← E.out] at ho7 ⊢; replace ho7 := hid ho7; have B7 := hid (B6.out.trans hb7); have q7 := hid ((hg7.block _ (block_lt q6.out) (ne_map2 (ownQ_far h6.out q6.out tNeSlD))).trans q6.out); have y7 := hid (y6.out.keptQ h6.out tNeSl hg7); clear hb7 hg7))
      go_roundw
      case rel => rw [← hz.out] at ho7 ⊢; exact ⟨j + 1, A7, c7, by omega, by go_num, rfl, ho7.out, B7.out, q7.out, y7.out⟩
      case measure => simp [intOf]; omega
    · obtain rfl : j = 3 := by omega
      have e3 : ds.take 3 = ds := List.take_of_length_le (Nat.le_of_eq hdl.out)
      rw [e3] at ho ⊢
      have E5 := hid (show ((y1 :: ds.map (·.1)) ++ [y2]).length = 5 by simp [hdl.out])
      have lx : (y1 :: ds.map (·.1)).length ≤ 4 := by simp [hdl.out]
      have Ex := hid (show y1 :: (ds.map (·.1) ++ [y2]) = (y1 :: ds.map (·.1)) ++ [y2] from rfl)
      generalize y1 :: ds.map (·.1) = xs at *
      replace lx := hid lx
      replace hq := hid hq
      replace hy := hid hy
      have ry := hid hy.out.rd
      have vy := hid hy.out.cap
      have hbs := hid hb.size
      have B0 := hid hb
      replace ho := hid ho
      clear hb
      go_wp2_with (first
        | ((with_reducible refine wpList_buildSrc1 rfl (.tmp 44) rfl A2 4 k2 y2 rfl l2.symm ry.out vy.out ?_); intro g6 w6 hg6 s6 b6; replace s6 := hid s6; have h6 := hid (ho.out.bel b6); have B6 := hid (B0.out.trans (b6.mono hbs.out)); have y6 := hid (hy.out.bel b6); clear b6)
        | (at_builtin; refine wpList_appOwnG slotSlX rfl (.tmp 43) (.tmp 45) rfl w.heap.size w.heap.size A' (some ⟨g6, 0, none⟩) xs.length 1 c' 1 xs [y2] _ rfl rfl rfl rfl h6.out s6.out (own_far y6.out h6.out tNeSl) (by have := lx.out; simp; omega) B6.out.size ?_; intro A7 c7 w7 ho7 hb7 hg7; rw [E5.out]; replace ho7 := hid ho7; have B7 := hid (B6.out.trans hb7); clear hb7 hg7))
      go_ret
      rw [Ex.out]
      exact ⟨A7, c7, rfl, (OwnR.row ho7.out).rds, B7.out⟩
set_option maxHeartbeats 4000000 in
theorem PHdBytes_any (x : Hd) (hx : x.ok) (w : World) : Calls Tryd.prog 12 #[.agg (hdC x).toArray] w fun e w' => ∃ A c, e = .returned (.tuple #[.slice A (hdO x).length c, .int .i64 (hdE x)]) ∧ Own 5 w' w.heap.size A c (hdO x) ∧ Below w.heap.size w w' := by
  have hux := Tryd.underlying25
  have X0 := hid (BoxH.new w x 25).all
  have W0 := hid (ext_alloc w (.cells (hdC x).toArray 25))
  have jx := hid (sizeHd x)
  have hC := hid (fun W => PHdCheck_any x hx W)
  obtain ⟨m, hm⟩ : ∃ m, mayH x = m := ⟨_, rfl⟩
  have hE : hdE x = if m = true then 0 else 8 := by unfold hdE; rw [hm]
  have hO : hdO x = if m = true then hdB x else [] := by unfold hdO; rw [hm]
  rw [hE] at hC
  rw [hE, hO]
  cases m with
  | false =>
    simp only [Bool.false_eq_true, if_false] at hC ⊢
    clear hm hE hO hx
    generalize hdC x = cx at *
    go_enter Tryd.func12, Tryd.ntmps12
    go_wp2_with (first
      | ((with_reducible refine wpList_load_rng rfl 25 (.tmp 1) rfl w.heap.size 0 rfl cx _ ?_ hux rfl jx.out ?_); exact X0.out))
    refine (hC.out _).mono ?_
    rintro e w1 ⟨rfl, hb⟩
    go_wp2
    go_ret2
    exact ⟨none, 0, rfl, Own.nil _ _, W0.out.trans (hb.mono W0.out.size)⟩
  | true =>
    simp only [if_true] at hC ⊢
    have hF := hid (fun W => PHdFields_any x hm W)
    have hz := partsH_flat x
    have lb := hdB_len x
    have hJ := hid (fun A c W (h : Rds W A (partsH x)) => PHdJoined_any A c 5 (partsH x) W h rfl (by simp [partsH]) (by rw [hz, lb]; decide))
    rw [hz] at hJ
    clear hm hE hO hx hz lb
    generalize hdC x = cx at *
    generalize partsH x = ps at *
    generalize hdB x = zz at *
    go_enter Tryd.func12, Tryd.ntmps12
    go_wp2_with (first
      | ((with_reducible refine wpList_load_rng rfl 25 (.tmp 1) rfl w.heap.size 0 rfl cx _ ?_ hux rfl jx.out ?_); exact X0.out))
    refine (hC.out _).mono ?_
    rintro e w1 ⟨rfl, hb⟩
    have W1 := hid (W0.out.trans (hb.mono W0.out.size))
    have X1 := hid (rangeBel2 hb X0.out)
    clear hb X0 W0
    go_wp2_with (first
      | ((with_reducible refine wpList_load_rng rfl 25 (.tmp 1) rfl w.heap.size 0 rfl cx _ ?_ hux rfl jx.out ?_); exact X1.out))
    refine (hF.out _).mono ?_
    rintro e w2 ⟨A2, c2, rfl, r2, hb⟩
    have W2 := hid (W1.out.trans (hb.mono W1.out.size))
    replace r2 := hid r2
    clear hb X1
    go_wp2_with fail
    refine (hJ.out _ _ _ r2.out).mono ?_
    rintro e w3 ⟨A3, c3, rfl, o3, hb⟩
    have W3 := hid (W2.out.trans (hb.mono W2.out.size))
    have o3 := hid (o3.base (B' := w.heap.size) W2.out.size)
    clear hb
    go_wp2
    go_ret2
    exact ⟨_, _, rfl, o3.out, W3.out⟩
end Go.Proofs.YtpfglincdlmfhaaDoor
