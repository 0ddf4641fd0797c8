/-
  The landed package sha: the end is padded; the digest is told.
-/
import Derived.Test.YtliahdlllmnkkaaDoorShaD
import Derived.Test.YtliahdlllmnkkaaDoorRef02e
namespace Go.Proofs.YtliahdlllmnkkaaDoor
open Go.RowKit
set_option linter.unusedVariables false

theorem be_get (n : Nat) : ∀ size k : Nat, k < size → (be size n)[k]? = some (UInt8.ofNat (n / 256 ^ (size - 1 - k) % 256)) := by
  intro size
  induction size with
  | zero => intro k h; omega
  | succ s ih =>
    intro k h
    rw [be_cons]
    rcases k with _ | k
    · rw [List.getElem?_cons_zero]; rfl
    · rw [List.getElem?_cons_succ, ih k (by omega), show s + 1 - 1 - (k + 1) = s - 1 - k by omega]
theorem be_take_succ (n size k : Nat) (h : k < size) : (be size n).take (k + 1) = (be size n).take k ++ [UInt8.ofNat (n / 256 ^ (size - 1 - k) % 256)] := by
  rw [List.take_add_one, be_get n size k h]
  rfl
theorem shr_b (n k : Nat) : ((n : Int) / 2 ^ (8 * k) % 256) = ((UInt8.ofNat (n / 256 ^ k % 256)).toNat : Int) := by
  have e : (2 : Int) ^ (8 * k) = ((256 ^ k : Nat) : Int) := by
    rw [Int.pow_mul]; simp
  have e2 : ((n : Int) / 2 ^ (8 * k) % 256) = ((n / 256 ^ k % 256 : Nat) : Int) := by rw [e]; simp
  rw [e2]
  simp

theorem Str.held {w : World} {g : Nat} {p : List UInt8} {n : Nat} (H : Str w g p n) : w.cell? ⟨g, 72, none⟩ = some (.int .i64 ((p.length % 64 : Nat) : Int)) := by
  obtain ⟨b, h1, h2⟩ := H
  exact h1.hd

set_option maxRecDepth 10000 in
set_option maxHeartbeats 1000000 in
theorem pad_any (g : Nat) (l : List UInt8) (w : World) (H : Str w g l l.length) (hn : l.length ≤ 1000000000) (hT : Tab w) (hg : 1 < g) :
    Calls Tryd.prog 24 #[.pointer (some ⟨g, 0, none⟩)] w fun r w' => r = .returned (.tuple #[]) ∧ Str w' g (padded l) l.length ∧ Below g w w' := by
  have P0 := hid (padP_zero l)
  have k1 := H.count.1
  have hpad := hid (show padded l = padP l (padZ l.length) ++ be 8 (8 * l.length) from rfl)
  obtain ⟨N, hN⟩ : ∃ N : Nat, N = 8 * l.length := ⟨_, rfl⟩
  have e8 : (l.length : Int) * 8 = (N : Int) := by omega
  have hN2 : N ≤ 8000000000 := by omega
  rw [← hN] at hpad
  replace hN := hid hN
  go_enter Tryd.func24, Tryd.ntmps24
  go_wp2_with fail
  refine (put_any g l l.length 128 w H hT hg).mono ?_
  rintro e w1 ⟨rfl, H1, B1⟩
  rw [P0.out] at H1
  replace H1 := hid H1
  replace B1 := hid B1
  replace hT := hid hT
  clear k1
  go_wp2_with fail
  go_loopw [] (fun wr => ∃ j : Nat, j ≤ padZ l.length ∧ Str wr g (padP l j) l.length ∧ Below g w wr) (fun wr => match wr.cell? ⟨g, 72, none⟩ with | some (.int _ h) => ((120 - h) % 64).toNat | _ => 0)
  case atStart => exact ⟨0, Nat.zero_le _, H1.out, B1.out⟩
  case round =>
    obtain ⟨j, hj, HS, hb⟩ := hrel
    have c1 := HS.held
    have hz := padZ_lt l.length
    by_cases hlt : j < padZ l.length
    · have ht := padP_test l j hlt
      have P1 := hid (padP_succ l j)
      have L0 := hid (padP_len l j)
      have L1 := hid (padP_len l (j + 1))
      have HS2 := hid HS
      clear HS
      go_wp2_with fail
      refine (put_any g (padP l j) l.length 0 wr HS2.out (hT.out.bel hb hg) hg).mono ?_
      rintro e w2 ⟨rfl, H2, B2⟩
      rw [P1.out] at H2
      have c2 := hid H2.held
      replace H2 := hid H2
      have B3 := hid (hb.trans B2)
      clear B2
      go_wp2_with fail
      go_roundw
      case rel => exact ⟨j + 1, by omega, H2.out, B3.out⟩
      case measure =>
        rw [c2.out, c1]
        show ((120 - (((padP l (j + 1)).length % 64 : Nat) : Int)) % 64).toNat < ((120 - (((padP l j).length % 64 : Nat) : Int)) % 64).toNat
        rw [L1.out, L0.out]
        unfold padZ at hlt
        omega
    · have hjz : j = padZ l.length := by omega
      subst hjz
      have ht := padP_done l
      have HS2 := hid HS
      generalize padP l (padZ l.length) = x at *
      clear HS hlt hj hz
      go_wp2_with fail
      go_loopw [18] (fun v wr => ∃ k : Nat, k ≤ 8 ∧ v = .int .i64 k ∧ Str wr g (x ++ (be 8 N).take k) l.length ∧ Below g w wr) (fun v _ => 8 - (intOf v).toNat)
      case atStart => exact ⟨0, Nat.zero_le _, rfl, by rw [List.take_zero, List.append_nil]; exact HS2.out, hb⟩
      case round =>
        clear HS2 hb c1 ht
        obtain ⟨k, hk, rfl, HS3, hb3⟩ := hrel
        by_cases hlt : k < 8
        · as_aux_lemma =>
          have E := hid (be_take_succ N 8 k hlt)
          obtain ⟨m, hm⟩ : ∃ m, m = 7 - k := ⟨_, rfl⟩
          rw [show 8 - 1 - k = m by omega] at E
          have S := shr_b N m
          have f1 : IntKind.i64.wrap (7 - (k : Int)) = (m : Int) := by rw [IntWalk.i64_in _ (by omega)]; omega
          have g1 : (7 - (k : Int)) = (m : Int) := by omega
          have f2 : IntKind.i64.wrap (8 * (m : Int)) = 8 * (m : Int) := by rw [IntWalk.i64_in _ (by omega)]
          have hm7 : m ≤ 7 := by omega
          have j1 : (k : Int) < 8 := by omega
          generalize UInt8.ofNat (N / 256 ^ m % 256) = y at *
          replace hm := hid hm
          replace HS3 := hid HS3
          go_wp2_with fail
          refine (put_any g (x ++ (be 8 N).take k) l.length y wr HS3.out (hT.out.bel hb3 hg) hg).mono ?_
          rintro e w2 ⟨rfl, H2, B2⟩
          rw [List.append_assoc, ← E.out] at H2
          replace H2 := hid H2
          have B3 := hid (hb3.trans B2)
          clear B2
          go_wp2_with fail
          go_roundw
          case rel => exact ⟨k + 1, by omega, by go_num, H2.out, B3.out⟩
          case measure => simp [intOf]; omega
        · as_aux_lemma =>
          obtain rfl : k = 8 := by omega
          rw [List.take_of_length_le (by rw [be_length]; omega), ← hpad.out] at HS3
          replace HS3 := hid HS3
          go_wp2_with fail
          go_end0
          exact ⟨rfl, HS3.out, hb3⟩

/-! ### the digest -/
structure DI (w wr : World) (l : List UInt8) (i : Nat) : Prop where
  below : Below w.heap.size w wr
  res : wr.heap[w.heap.size]? = some (.cells z32 29 (0, 0))
  cur : wr.heap[w.heap.size + 1]? = some (.cells ((upTo l i).map bv).toArray 29 (0, 0))

theorem DI.new (w : World) (l : List UInt8) : DI w ((w.alloc (.cells z32 29)).alloc (.cells z32 29)) l 0 :=
  ⟨(ext_alloc w _).alloc (by simp) _, (Below.heap_alloc _ _ _ (by simp)).trans (heap_alloc_new w _), by
    have e : (w.alloc (.cells z32 29)).heap.size = w.heap.size + 1 := by simp
    rw [← e, upTo_zero]
    exact heap_alloc_new (w.alloc (.cells z32 29)) (.cells z32 29)⟩

set_option maxRecDepth 10000 in
set_option maxHeartbeats 1000000 in
theorem digest_any (g : Nat) (s : S8) (b : List UInt8) (h n : Nat) (w : World) (H : SumIs w g s.list b h n) :
    Calls Tryd.prog 25 #[.pointer (some ⟨g, 0, none⟩)] w fun r w' => r = .returned (.agg (s.bytes.map bv).toArray) ∧ Below w.heap.size w w' := by
  have hb32 := hid (S8.bytes_len s)
  have hfl := hid (fun i j hj hi => flat4 s.list i j hj hi)
  have hsb := hid (show s.bytes = (s.list.map fun x => be 4 x.toNat).flatten from rfl)
  have H1 := hid H
  have hgl := block_lt H.blk
  clear H
  go_enter Tryd.func25, Tryd.ntmps25
  go_wp2_with (first
    | (with_reducible refine wpList_alloc_row rfl 29 rfl z32 info32 ?_))
  go_loopw [5] (fun v wr => ∃ i : Nat, i ≤ 32 ∧ v = .int .i64 i ∧ DI w wr s.bytes i) (fun v _ => 32 - (intOf v).toNat)
  case atStart => exact ⟨0, Nat.zero_le _, rfl, DI.new w _⟩
  case round =>
    obtain ⟨i, hi, rfl, hs⟩ := hrel
    by_cases hlt : i < 32
    · as_aux_lemma =>
      have cS := (H1.out.bel hs.below).st (i / 4) (by omega)
      have E := upTo_step s.bytes i hb32.out hlt (UInt8.ofNat ((s.list.getD (i / 4) 0).toNat / 256 ^ (3 - i % 4) % 256)) (by rw [hsb.out, ← hfl.out (i / 4) (i % 4) (by omega) (by show _ < 8; omega), show 4 * (i / 4) + i % 4 = i by omega])
      have cD := block_bcell hs.cur i (by rw [upTo_len _ _ hb32.out hi]; omega)
      have hf := block_frozen hs.cur i
      obtain ⟨m, hm⟩ : ∃ m, m = 3 - i % 4 := ⟨_, rfl⟩
      obtain ⟨q, hq⟩ : ∃ q, q = i / 4 := ⟨_, rfl⟩
      obtain ⟨r, hr⟩ : ∃ r, r = i % 4 := ⟨_, rfl⟩
      rw [← hm, ← hq] at E
      rw [← hq] at cS
      generalize s.list.getD q 0 = x at *
      have S := shr_b x.toNat m
      generalize UInt8.ofNat (x.toNat / 256 ^ m % 256) = y at *
      have q4 : (i : Int).tdiv 4 = (q : Int) := by rw [Int.tdiv_eq_ediv_of_nonneg (by omega)]; omega
      have r4 : (i : Int).tmod 4 = (r : Int) := by rw [Int.tmod_eq_emod_of_nonneg (by omega)]; omega
      have f1 : IntKind.i64.wrap (3 - (r : Int)) = (m : Int) := by rw [IntWalk.i64_in _ (by omega)]; omega
      have g1 : (3 - (r : Int)) = (m : Int) := by omega
      have f2 : IntKind.i64.wrap (8 * (m : Int)) = 8 * (m : Int) := by rw [IntWalk.i64_in _ (by omega)]
      have hm7 : m ≤ 3 := by omega
      have j1 : (i : Int) < 32 := by omega
      have i4 : q < 8 := by omega
      replace hq := hid hq
      replace hr := hid hr
      replace hm := hid hm
      replace E := hid E
      replace hs := hid hs
      go_wp2_with fail
      go_roundw
      case rel =>
        refine ⟨i + 1, by omega, by go_num, hs.out.below.setCell (by simp) _, (Below.heap_setCell _ _ _ _ (by simp)).trans hs.out.res, ?_⟩
        rw [← E.out]
        exact block_bset hs.out.cur i y
      case measure => simp [intOf]; omega
    · as_aux_lemma =>
      obtain rfl : i = 32 := by omega
      have hcur := hs.cur
      rw [upTo_all _ hb32.out] at hcur
      have hres := hid hs.res
      replace hcur := hid hcur
      replace hs := hid hs
      have hz : ((s.bytes.map bv).toArray).size = 32 := by simp [hb32.out]
      go_wp2_with (first
        | ((with_reducible refine wpList_load_row rfl 29 (.tmp 3) rfl (w.heap.size + 1) rfl 29 ((s.bytes.map bv).toArray) (0, 0) _ ?_ Tryd.underlying29 rfl ?_ ?_); exact hcur.out; (rw [hz]; exact size32))
        | ((with_reducible refine wpList_store_row rfl 29 (.tmp 2) (.tmp 24) rfl w.heap.size _ rfl rfl 29 z32 ?_ ?_ ?_ ?_ ?_); exact hres.out; (rw [hz]; exact size32); (rw [hz]; exact z32_size); exact bvs_all _; intro w1 hg1 hb1 hs1))
      refine bodyPost_ret (v := .agg ((s.bytes.map bv).toArray)) ?_ rfl ⟨rfl, ?_⟩
      · exact results_cell_row Tryd.results25 _ _ w.heap.size 29 _ (0, 0) _ rfl hg1 Tryd.underlying29 rfl (by rw [hz]; exact size32)
      · exact hs.out.below.grown hb1 hs.out.below.size (by simp)

/-! ### Of -/
set_option maxRecDepth 100000 in
set_option maxHeartbeats 1000000 in
theorem Of_any (A : Option Addr) (c n : Nat) (ls : List (List UInt8)) (w : World) (hr : Rds w A ls) (hn : n = ls.length) (hn2 : ls.length ≤ 1000000) (hl : ls.flatten.length ≤ 1000000) (hT : Tab w) :
    Calls Tryd.prog 9 #[.slice A n c] w fun r w' => r = .returned (.agg ((sha256 ls.flatten).map bv).toArray) ∧ Below w.heap.size w w' := by
  subst hn
  have hw0 := hT.low
  go_enter Tryd.func9, Tryd.ntmps9
  go_wp2_with (first
    | (with_reducible refine wpList_alloc_row rfl 29 rfl z32 info32 ?_)
    | (with_reducible refine wpList_alloc_row rfl 51 rfl zsum infoSum ?_))
  refine (newSum_any _).mono ?_
  rintro e w1 ⟨rfl, hb1⟩
  go_wp2_with (first
    | (with_reducible refine wpList_alloc_row rfl 51 rfl zsum infoSum ?_)
    | ((with_reducible refine wpList_store_row rfl 51 (.tmp 3) (.tmp 6) rfl _ _ rfl rfl 51 zsum ?_ ?_ ?_ ?_ ?_); exact heap_alloc_new _ _; exact sizeSum; rfl; decide +kernel; intro w2 hg2 hb2 hs2))
  have W12 : Below w.heap.size w w2 := ext_trans (ext_trans (ext_alloc w _) hb1) ((ext_alloc w1 _).grown hb2 (by simp) (fun k hk => by injection hk with hk; omega))
  have hgl : w.heap.size < w1.heap.size := by have := hb1.size; simp at this; omega
  have res2 : w2.heap[w.heap.size]? = some (.cells z32 29 (0, 0)) :=
    (hb2.block _ (by simp; omega) (fun e => by injection e with e; omega)).trans ((Below.heap_alloc _ _ _ hgl).trans ((hb1.block _ (by simp)).trans (heap_alloc_new w _)))
  have S2 : Str w2 w1.heap.size [] 0 := ⟨List.replicate 64 0, ⟨hg2, by simp, rfl⟩, rfl⟩
  generalize w1.heap.size = g at *
  clear hb1 hg2 hb2 hs2
  replace W12 := hid W12
  replace res2 := hid res2
  replace S2 := hid S2
  have T2 := hid (hT.bel W12.out hw0)
  have hg0 : 1 < g := by omega
  clear hT
  go_loopw [9] (fun v wr => ∃ j : Nat, j ≤ ls.length ∧ v = .int .i64 j ∧ Str wr g (ls.take j).flatten (ls.take j).flatten.length ∧ Below g w2 wr) (fun v _ => ls.length - (intOf v).toNat)
  case atStart => exact ⟨0, Nat.zero_le _, rfl, by rw [List.take_zero]; exact S2.out, Below.refl _ _⟩
  case round =>
    obtain ⟨j, hj, rfl, HS, hb⟩ := hrel
    have hx := flat_take_le ls j
    have hx2 := flat_take_le ls (j + 1)
    have Wr := W12.out.trans (hb.mono (by omega))
    by_cases hlt : j < ls.length
    · as_aux_lemma =>
      obtain ⟨b, o, rfl, hc⟩ := hr (by omega)
      obtain ⟨A2, c2, hcell, hr2, hc2, hcm2⟩ := hc j _ (List.getElem?_eq_getElem hlt)
      have hcell2 := (Wr.cell (p := ⟨b, o + j, none⟩) (World.block_lt_of_cell? _ _ hcell)).trans hcell
      have E := hid (flat_take_succ ls j hlt)
      have hA2 : 0 < (ls[j]).length → ∀ a, A2 = some a → a.block < g := by
        intro h0 a ha
        obtain ⟨b', o', hA', hc'⟩ := hr2 h0
        have h3 := World.block_lt_of_cell? _ _ (hc' 0 _ (List.getElem?_eq_getElem h0))
        rw [ha] at hA'
        injection hA' with hA'
        subst hA'
        show b' < g
        have h4 : b' < w.heap.size := h3
        omega
      have hr3 := hid (hr2.bel Wr)
      rw [E.out, List.length_append] at hx2
      generalize hy : (ls.take (j + 1)).flatten = y at *
      replace hy := hid hy
      generalize (ls.take j).flatten = x at *
      generalize ls[j] = z at *
      replace HS := hid HS
      replace hA2 := hid hA2
      have Hb := hid hb
      replace Wr := hid Wr
      clear hc hr hcell hr2 hb
      have j1 : (j : Int) < ls.length := by omega
      go_wp2_with fail
      refine (add_any g x z A2 c2 x.length wr HS.out hr3.out hA2.out hc2 hcm2 (by omega) (T2.out.bel Hb.out hg0) hg0).mono ?_
      rintro e w3 ⟨rfl, S3, B3⟩
      replace S3 := hid S3
      have B4 := hid (Hb.out.trans B3)
      clear B3
      go_wp2_with fail
      go_roundw
      case rel =>
        refine ⟨j + 1, by omega, by go_num, ?_, B4.out⟩
        rw [hy.out, E.out, List.length_append]
        exact S3.out
      case measure => simp [intOf]; omega
    · as_aux_lemma =>
      obtain rfl : j = ls.length := by omega
      rw [List.take_length] at HS
      generalize hy : ls.flatten = x at *
      replace hy := hid hy
      have HS2 := hid HS
      have Hb := hid hb
      have Hres := hid ((hb.block w.heap.size hgl).trans res2.out)
      replace Wr := hid Wr
      clear HS hb hr
      go_wp2_with fail
      refine (pad_any g x wr HS2.out (by omega) (T2.out.bel Hb.out hg0) hg0).mono ?_
      rintro e w3 ⟨rfl, S3, B3⟩
      obtain ⟨b3, S4, -⟩ := S3
      have hsha : (stN (padded x) ((padded x).length / 64)).bytes = sha256 x := rfl
      have R3 := hid ((B3.block _ hgl).trans Hres.out)
      have W3 := hid (Wr.out.trans (B3.mono (by omega)))
      clear B3
      go_wp2_with fail
      refine (digest_any g _ b3 _ _ w3 S4).mono ?_
      rintro e w4 ⟨rfl, B4⟩
      rw [hsha]
      have R4 := hid ((B4.block _ (block_lt R3.out)).trans R3.out)
      have W4 := hid (ext_trans W3.out B4)
      have hz : (((sha256 x).map bv).toArray).size = 32 := by rw [← hsha]; simp [S8.bytes_len]
      clear B4 S4
      obtain ⟨dg, hdg⟩ : ∃ dg, dg = sha256 x := ⟨_, rfl⟩
      rw [← hdg] at hz ⊢
      replace hdg := hid hdg
      clear hsha
      go_wp2_with (first
        | ((with_reducible refine wpList_store_row rfl 29 (.tmp 2) (.tmp 17) rfl w.heap.size _ rfl rfl 29 z32 ?_ ?_ ?_ ?_ ?_); exact R4.out; (rw [hz]; exact size32); (rw [hz]; exact z32_size); exact bvs_all _; intro w5 hg5 hb5 hs5))
      refine bodyPost_ret (v := .agg ((dg.map bv).toArray)) ?_ rfl ⟨by rw [hdg.out, hy.out], ?_⟩
      · exact results_cell_row Tryd.results9 _ _ w.heap.size 29 _ (0, 0) _ rfl hg5 Tryd.underlying29 rfl (by rw [hz]; exact size32)
      · exact W4.out.grown hb5 W4.out.size (by simp)
end Go.Proofs.YtliahdlllmnkkaaDoor
