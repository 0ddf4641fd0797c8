/-
  The landed package sha: bytes are held until a block is full.
-/
import Derived.Test.YtliahdlllmnkkaaDoorShaC
namespace Go.Proofs.YtliahdlllmnkkaaDoor
open Go.RowKit
set_option linter.unusedVariables false

/-! ### pure: where the bytes stand -/
theorem stN_app (p x : List UInt8) : ∀ q : Nat, 64 * q ≤ p.length → stN (p ++ x) q = stN p q := by
  intro q
  induction q with
  | zero => intro _; rfl
  | succ q ih =>
    intro hq
    have e : ((p ++ x).drop (64 * q)).take 64 = (p.drop (64 * q)).take 64 := by
      rw [List.drop_append_of_le_length (by omega), List.take_append_of_le_length (by rw [List.length_drop]; omega)]
    rw [stN, stN, ih (by omega), e]

/-- The sum at g has been fed p, and counts n. -/
def Str (w : World) (g : Nat) (p : List UInt8) (n : Nat) : Prop :=
  ∃ b, SumIs w g (stN p (p.length / 64)).list b (p.length % 64) n ∧ b.take (p.length % 64) = p.drop (64 * (p.length / 64))

/-- What 'hold' leaves. -/
def Held (w : World) (g : Nat) (s : S8) (b : List UInt8) (h n : Nat) : Prop :=
  (h = 64 → SumIs w g (s.plus (s.rounds (sched b) 64)).list b 0 n) ∧ (h ≠ 64 → SumIs w g s.list b h n)

theorem Str.step {w : World} {g : Nat} {p x : List UInt8} {b : List UInt8} {n : Nat} (hb : b.take (p.length % 64 + x.length) = p.drop (64 * (p.length / 64)) ++ x) (hb64 : b.length = 64) (hle : p.length % 64 + x.length ≤ 64)
    (H : Held w g (stN p (p.length / 64)) b (p.length % 64 + x.length) n) : Str w g (p ++ x) n := by
  have hl : (p ++ x).length = p.length + x.length := List.length_append
  by_cases hf : p.length % 64 + x.length = 64
  · have h1 := H.1 hf
    have hq : (p ++ x).length / 64 = p.length / 64 + 1 := by omega
    have hm : (p ++ x).length % 64 = 0 := by omega
    refine ⟨b, ?_, ?_⟩
    · rw [hq, hm, stN, stN_app p x _ (by omega)]
      have e : ((p ++ x).drop (64 * (p.length / 64))).take 64 = b := by
        rw [List.drop_append_of_le_length (by omega), ← hb, hf, List.take_take, Nat.min_self, List.take_of_length_le (by omega)]
      rw [e]
      exact h1
    · rw [hm, hq, List.take_zero, List.drop_eq_nil_of_le (by omega)]
  · have h1 := H.2 hf
    have hq : (p ++ x).length / 64 = p.length / 64 := by omega
    have hm : (p ++ x).length % 64 = p.length % 64 + x.length := by omega
    refine ⟨b, ?_, ?_⟩
    · rw [hq, hm, stN_app p x _ (by omega)]
      exact h1
    · rw [hq, hm, hb, List.drop_append_of_le_length (by omega)]
theorem Str.bel {w w' : World} {g : Nat} {p : List UInt8} {n : Nat} (h : Str w g p n) (hb : Below w.heap.size w w') : Str w' g p n := by
  obtain ⟨b, h1, h2⟩ := h
  exact ⟨b, h1.bel hb, h2⟩
theorem splice_take (b x : List UInt8) (h : Nat) (hh : h ≤ b.length) : (splice b h x).take (h + x.length) = b.take h ++ x := by
  unfold splice
  have e : (b.take h).length = h := by simp; omega
  rw [List.take_append, e, Nat.add_sub_cancel_left, List.take_append_of_le_length (by omega), List.take_of_length_le (l := x) (by omega), List.take_take, Nat.min_eq_right (by omega)]
theorem set_splice (b : List UInt8) (h : Nat) (c : UInt8) (hh : h < b.length) : b.set h c = splice b h [c] := by
  unfold splice
  rw [List.set_eq_take_append_cons_drop, if_pos hh]
  rfl

/-! ### hold, put -/
set_option maxHeartbeats 400000 in
theorem hold_any (g : Nat) (s : S8) (b : List UInt8) (h m n : Nat) (w : World) (H : SumIs w g s.list b h n) (hle : h + m ≤ 64) (hT : Tab w) (hg : 1 < g) :
    Calls Tryd.prog 33 #[.pointer (some ⟨g, 0, none⟩), .int .i64 (m : Int)] w fun r w' => r = .returned (.tuple #[]) ∧ Held w' g s b (h + m) n ∧ Below g w w' := by
  have c1 := H.hd
  have f1 := H.fr 72
  have e1 : IntKind.i64.wrap ((h : Int) + (m : Int)) = ((h + m : Nat) : Int) := by rw [IntWalk.i64_in _ (by omega)]; omega
  have hgl := block_lt H.blk
  have H2 : SumIs (w.setCell ⟨g, 72, none⟩ (.int .i64 ((h + m : Nat) : Int))) g s.list b (h + m) n := H.set_hd (h + m)
  have B2 : Below g w (w.setCell ⟨g, 72, none⟩ (.int .i64 ((h + m : Nat) : Int))) := (Below.refl g w).setCell (Nat.le_refl _) _
  have c2 := H2.hd
  have T2 := hT.bel B2 hg
  by_cases hf : h + m = 64
  · have H3 : SumIs (w.setCell ⟨g, 72, none⟩ (.int .i64 64)) g s.list b 64 n := by rw [hf] at H2; exact H2
    have T3 : Tab (w.setCell ⟨g, 72, none⟩ (.int .i64 64)) := by rw [hf] at T2; exact T2
    have B3 : Below g w (w.setCell ⟨g, 72, none⟩ (.int .i64 64)) := by rw [hf] at B2; exact B2
    rw [hf] at e1 c2 ⊢
    have e2 : (h : Int) + (m : Int) = 64 := by omega
    clear H2 T2 B2 H hf hle
    replace hT := hid hT
    replace H3 := hid H3
    replace T3 := hid T3
    replace B3 := hid B3
    go_enter Tryd.func33, Tryd.ntmps33
    go_wp2_with fail
    refine (turn_sum g s b 64 n _ H3.out T3.out hg).mono ?_
    rintro r w4 ⟨rfl, H4, B4⟩
    have f4 := H4.fr 72
    have c4 := H4.hd
    have H5 := hid (H4.set_hd 0)
    have B5 := hid ((B3.out.trans B4).setCell (p := ⟨g, 72, none⟩) (Nat.le_refl _) (.int .i64 ((0 : Nat) : Int)))
    clear H4 B4
    go_wp2_with fail
    go_end0
    exact ⟨rfl, ⟨fun _ => H5.out, fun hh => absurd rfl hh⟩, B5.out⟩
  · have e2 : IntKind.i64.wrap ((h : Int) + (m : Int)) = (h : Int) + (m : Int) := by rw [IntWalk.i64_in _ (by omega)]
    have t1 : ((h : Int) + (m : Int) == 64) = false := by simpa using (show (h : Int) + (m : Int) ≠ 64 by omega)
    have e3 : ((h + m : Nat) : Int) = (h : Int) + (m : Int) := by omega
    rw [e3] at H2 B2 c2
    clear e1 e3 T2 H
    replace H2 := hid H2
    replace B2 := hid B2
    replace hT := hid hT
    replace hf := hid hf
    go_enter Tryd.func33, Tryd.ntmps33
    go_wp2_with fail
    go_end0
    exact ⟨rfl, ⟨fun hh => absurd hh hf.out, fun _ => H2.out⟩, B2.out⟩

set_option maxRecDepth 10000 in
theorem put_any (g : Nat) (p : List UInt8) (n : Nat) (c : UInt8) (w : World) (H : Str w g p n) (hT : Tab w) (hg : 1 < g) :
    Calls Tryd.prog 34 #[.pointer (some ⟨g, 0, none⟩), .int .u8 (c.toNat : Int)] w fun r w' => r = .returned (.tuple #[]) ∧ Str w' g (p ++ [c]) n ∧ Below g w w' := by
  obtain ⟨b, HS, hb⟩ := H
  have hh : p.length % 64 < 64 := Nat.mod_lt _ (by decide)
  have hb2 : (b.set (p.length % 64) c).take (p.length % 64 + [c].length) = p.drop (64 * (p.length / 64)) ++ [c] := by
    rw [set_splice _ _ _ (by rw [HS.len]; omega), splice_take _ _ _ (by rw [HS.len]; omega), hb]
  have hst2 : ∀ w', Held w' g (stN p (p.length / 64)) (b.set (p.length % 64) c) (p.length % 64 + 1) n → Str w' g (p ++ [c]) n := fun w' hh' => Str.step hb2 (by rw [List.length_set]; exact HS.len) (by show p.length % 64 + 1 ≤ 64; omega) hh'
  clear hb2 hb
  generalize stN p (p.length / 64) = s at *
  generalize p.length % 64 = h at *
  have c1 := HS.hd
  have c2 := HS.bl h hh
  have c3 := HS.fr (8 + h)
  have hgl := block_lt HS.blk
  have H2 := hid (HS.set_bl h hh c)
  have B2 := hid ((Below.refl g w).setCell (p := ⟨g, 8 + h, none⟩) (Nat.le_refl _) (bv c))
  have h1 : (h : Int) < 64 := by omega
  have HT := hid hT
  replace hst2 := hid hst2
  clear hT HS
  unfold bv at c2
  go_enter Tryd.func34, Tryd.ntmps34
  go_wp2_with fail
  go_region
  go_wp2_with fail
  refine (hold_any g s _ h 1 n _ (H2.out.drewN 1) (by omega) (HT.out.bel (below_drewN B2.out 1) hg) hg).mono ?_
  rintro r w4 ⟨rfl, H4, B4⟩
  go_wp2_with fail
  go_end0
  exact ⟨rfl, hst2.out _ H4, (below_drewN B2.out 1).trans B4⟩

/-! ### add -/
theorem Rd.low {w w' : World} {A : Option Addr} {l : List UInt8} {g : Nat} (h : Rd w A l) (hA : 0 < l.length → ∀ a, A = some a → a.block < g) (hb : Below g w w') : Rd w' A l := by
  intro hn
  obtain ⟨b, o, rfl, hc⟩ := h hn
  exact ⟨b, o, rfl, fun j x hx => (hb.cell (p := ⟨b, o + j, none⟩) (hA hn ⟨b, o, none⟩ rfl)).trans (hc j x hx)⟩

theorem Str.count {w : World} {g : Nat} {p : List UInt8} {n : Nat} (H : Str w g p n) : w.cell? ⟨g, 73, none⟩ = some (.int .u64 n) ∧ w.frozen? ⟨g, 73, none⟩ = false ∧ ∀ m : Nat, Str (w.setCell ⟨g, 73, none⟩ (.int .u64 m)) g p m := by
  obtain ⟨b, h1, h2⟩ := H
  exact ⟨h1.ct, h1.fr 73, fun m => ⟨b, h1.set_ct m, h2⟩⟩

set_option maxRecDepth 10000 in
set_option maxHeartbeats 1000000 in
theorem add_any (g : Nat) (p l : List UInt8) (A : Option Addr) (c n : Nat) (w : World) (H : Str w g p n) (hr : Rd w A l) (hA : 0 < l.length → ∀ a, A = some a → a.block < g) (hc : l.length ≤ c) (hcm : c ≤ maxLen) (hn : n + l.length ≤ 1000000000) (hT : Tab w) (hg : 1 < g) :
    Calls Tryd.prog 23 #[.pointer (some ⟨g, 0, none⟩), .slice A l.length c] w fun r w' => r = .returned (.tuple #[]) ∧ Str w' g (p ++ l) (n + l.length) ∧ Below g w w' := by
  have hsz : (Tryd.prog.info? 5).map (·.size) = some 1 := sizeU8
  obtain ⟨k1, k2, k3⟩ := H.count
  have en : ((n + l.length : Nat) : Int) = (n : Int) + (l.length : Int) := by omega
  have k4 := k3 (n + l.length)
  have hgl : g < w.heap.size := by obtain ⟨b, h1, _⟩ := H; exact block_lt h1.blk
  have B1 := (Below.refl g w).setCell (p := ⟨g, 73, none⟩) (Nat.le_refl _) (.int .u64 ((n + l.length : Nat) : Int))
  rw [en] at k4 B1
  have HT := hid hT
  have hr1 := hid (hr.low hA B1)
  replace k4 := hid k4
  replace B1 := hid B1
  clear k3 H hT hr
  unfold maxLen at hcm
  have eN : ∃ N, N = n + l.length := ⟨_, rfl⟩
  obtain ⟨N, hN⟩ := eN
  rw [← hN] at k4 ⊢
  clear hN en
  go_enter Tryd.func23, Tryd.ntmps23
  go_wp2_with fail
  go_loopw [1] (fun v wr => ∃ (A' : Option Addr) (c' : Nat) (d r : List UInt8), l = d ++ r ∧ v = .slice A' r.length c' ∧ Rd wr A' r ∧ (0 < r.length → ∀ a, A' = some a → a.block < g) ∧ r.length ≤ c' ∧ c' ≤ 2 ^ 63 - 1 ∧ Str wr g (p ++ d) N ∧ Below g w wr) (fun v _ => match v with | .slice _ n _ => n | _ => 0)
  case atStart => exact ⟨A, c, [], l, rfl, rfl, hr1.out, hA, hc, hcm, by rw [List.append_nil]; exact k4.out, B1.out⟩
  case round =>
    obtain ⟨A', c', d, r, hl, rfl, hr', hA', hc', hcm', HS, hb⟩ := hrel
    replace hl := hid hl
    clear hr1 k4 B1
    by_cases h0 : 0 < r.length
    · as_aux_lemma =>
      obtain ⟨b, H1, H2⟩ := HS
      have hh : (p ++ d).length % 64 < 64 := Nat.mod_lt _ (by decide)
      have hst : ∀ (x : List UInt8) w', x.length + (p ++ d).length % 64 ≤ 64 → Held w' g (stN (p ++ d) ((p ++ d).length / 64)) (splice b ((p ++ d).length % 64) x) ((p ++ d).length % 64 + x.length) N → Str w' g ((p ++ d) ++ x) N := by
        intro x w' hx hH
        refine Str.step ?_ ?_ (by omega) hH
        · rw [splice_take _ _ _ (by rw [H1.len]; omega), H2]
        · rw [length_splice _ _ _ (by rw [H1.len]; omega)]; exact H1.len
      generalize stN (p ++ d) ((p ++ d).length / 64) = s at *
      generalize (p ++ d).length % 64 = h at *
      have c1 := H1.hd
      have hm : ∃ m, m = min r.length (64 - h) := ⟨_, rfl⟩
      obtain ⟨m, hm⟩ := hm
      have hm1 : m ≤ r.length := by omega
      have hm2 : m ≤ 64 - h := by omega
      have hm3 : 0 < m := by omega
      have hx : (r.take m).length = m := by rw [List.length_take]; omega
      have hcut := hr'.cut m r.length c' hm1 (Nat.le_refl _) hc'
      have hsp := hid (sumL_splice s.list b (r.take m) h N rfl H1.len (by omega))
      have hfit : 8 + h + ((r.take m).map bv).length ≤ (sumL s.list b h N).length := by rw [sumL_len _ _ _ _ rfl H1.len, List.length_map, hx]; omega
      have hsrc := (hr'.take m).src
      have hbv := bvs_one (r.take m)
      have hlen : ((r.take m).map bv).length = Nat.min r.length (64 - h) := by rw [List.length_map, hx]; exact hm
      obtain ⟨x, hxx⟩ : ∃ x, x = r.take m := ⟨_, rfl⟩
      rw [← hxx] at hx hsp hfit hsrc hbv hlen
      have E1 := hid (show r = x ++ r.drop m by rw [hxx, List.take_append_drop])
      have L1 := hid (show (r.drop m).length = r.length - m by rw [List.length_drop])
      have hcut2 : Rd wr (if c' = m then A' else A'.map (·.add m)) (r.drop m) := by
        have h := hcut
        rw [List.take_of_length_le (by rw [List.length_drop]; omega)] at h
        exact h
      clear hcut hxx
      generalize r.drop m = r2 at *
      obtain ⟨cs, hcs⟩ : ∃ cs, cs = x.map bv := ⟨_, rfl⟩
      rw [← hcs] at hsp hfit hsrc hbv hlen
      replace hcs := hid hcs
      obtain ⟨cur, hcur⟩ : ∃ cur, cur = sumL s.list b h N := ⟨_, rfl⟩
      rw [← hcur] at hsp hfit
      have hblk : wr.heap[g]? = some (.cells cur.toArray 51 (0, 0)) := by rw [hcur]; exact H1.blk
      replace hcur := hid hcur
      have hne : ¬ (64 = h) := by omega
      have hle : (h : Int) ≤ 64 := by omega
      have r0 : (0 : Int) < (r.length : Int) := by omega
      have Hhblk := hid hblk
      have Hfit := hid hfit
      have Hsrc := hid hsrc
      have Hbv := hid hbv
      have Hlen := hid hlen
      clear hblk hfit hsrc hbv hlen H2
      have hk : cs.length = m := by rw [hcs.out, List.length_map, hx]
      have hbl : (splice b h x).length = 64 := by rw [length_splice _ _ _ (by rw [H1.len, hx]; omega)]; exact H1.len
      have hl8 : s.list.length = 8 := rfl
      have hst3 : ∀ w', Held w' g s (splice b h x) (h + cs.length) N → Str w' g ((p ++ d) ++ x) N := fun w' hh' => hst x w' (by omega) (by rw [hx, ← hk]; exact hh')
      rw [← hk] at hcut2 L1 hm1 hm2 hm3
      have hk0 := hid hk
      have hx2 := hid hx
      replace hst3 := hid hst3
      replace hbl := hid hbl
      have HA := hid hA'
      have Hr := hid hr'
      have hsum := hid hh
      clear hk hm hx hst H1 hA' hr' hl8
      have i1 : (cs.length : Int) ≤ r.length := by omega
      have i2 : ¬ r.length < cs.length := by omega
      by_cases hcc : c' = cs.length
      · as_aux_lemma =>
        subst hcc
        go_wp2_with fail
        go_still_tail 9, (by kernel_rfl)
        go_wp2_with (first
          | ((with_reducible refine wpList_copy_splice rfl (.tmp 25) (.tmp 26) 26 26 rfl 5 Tryd.underlying26 hsz _ _ _ _ _ _ rfl rfl g (8 + h) cur 51 ?_ cs ?_ ?_ ?_ ?_ g wr ?_ (Nat.le_refl _) ?_); exact Hhblk.out; exact Hlen.out; exact fun hp => ⟨rfl, Hsrc.out hp⟩; exact Hfit.out; exact Hbv.out; exact ⟨rfl, rfl, rfl, Nat.le_refl _, fun _ _ => rfl⟩; intro w4 hg4 hb4))
        have H4 : SumIs w4 g s.list (splice b h x) h N := ⟨by have h4 := hg4.out; rwa [hsp.out] at h4, hbl.out, rfl⟩
        have T4 := HT.out.bel (hb.trans hb4) hg
        refine (hold_any g s (splice b h x) h cs.length N w4 H4 (by omega) T4 hg).mono ?_
        rintro e w5 ⟨rfl, H5, B5⟩
        have S5 := hid (hst3.out _ H5)
        have B6 := hid ((hb.trans hb4).trans B5)
        have B7 := hid (hb4.trans B5)
        clear H4 T4 H5 B5 hb4 hg4
        go_wp2_with fail
        go_roundw
        case rel =>
          have h0 : r2 = [] := List.eq_nil_of_length_eq_zero (by rw [L1.out]; omega)
          refine ⟨A', 0, d ++ x, [], ?_, rfl, fun hh' => absurd hh' (by simp), fun hh' => absurd hh' (by simp), Nat.zero_le _, by omega, ?_, B6.out⟩
          · rw [List.append_nil, hl.out, E1.out, h0, List.append_nil]
          · rw [← List.append_assoc]; exact S5.out
        case measure => show 0 < r.length; omega
      · as_aux_lemma =>
        go_wp2_with fail
        go_still_tail 9, (by kernel_rfl)
        go_wp2_with (first
          | ((with_reducible refine wpList_copy_splice rfl (.tmp 25) (.tmp 26) 26 26 rfl 5 Tryd.underlying26 hsz _ _ _ _ _ _ rfl rfl g (8 + h) cur 51 ?_ cs ?_ ?_ ?_ ?_ g wr ?_ (Nat.le_refl _) ?_); exact Hhblk.out; exact Hlen.out; exact fun hp => ⟨rfl, Hsrc.out hp⟩; exact Hfit.out; exact Hbv.out; exact ⟨rfl, rfl, rfl, Nat.le_refl _, fun _ _ => rfl⟩; intro w4 hg4 hb4))
        have H4 : SumIs w4 g s.list (splice b h x) h N := ⟨by have h4 := hg4.out; rwa [hsp.out] at h4, hbl.out, rfl⟩
        have T4 := HT.out.bel (hb.trans hb4) hg
        refine (hold_any g s (splice b h x) h cs.length N w4 H4 (by omega) T4 hg).mono ?_
        rintro e w5 ⟨rfl, H5, B5⟩
        have S5 := hid (hst3.out _ H5)
        have B6 := hid ((hb.trans hb4).trans B5)
        have B7 := hid (hb4.trans B5)
        clear H4 T4 H5 B5 hb4 hg4
        go_wp2_with fail
        go_roundw
        case rel =>
          rw [if_neg hcc] at hcut2
          have HA2 : 0 < r2.length → ∀ a, A'.map (·.add cs.length) = some a → a.block < g := by
            intro _ a ha
            obtain ⟨a0, ha0, rfl⟩ := Option.map_eq_some_iff.1 ha
            have h3 := HA.out h0 a0 ha0
            have h4 : (a0.add cs.length).block = a0.block := by unfold Addr.add; split <;> rfl
            omega
          refine ⟨_, c' - cs.length, d ++ x, r2, ?_, by rw [L1.out], hcut2.low HA2 B7.out, HA2, by rw [L1.out]; omega, by omega, ?_, B6.out⟩
          · rw [hl.out, E1.out, List.append_assoc]
          · rw [← List.append_assoc]; exact S5.out
        case measure => show r.length - cs.length < r.length; omega
    · as_aux_lemma =>
      obtain rfl : r = [] := List.eq_nil_of_length_eq_zero (by omega)
      have hd : l = d := by rw [hl.out, List.append_nil]
      subst hd
      replace hr' := hid hr'
      replace HS := hid HS
      go_wp2_with fail
      go_end0
      exact ⟨rfl, HS.out, hb⟩
end Go.Proofs.YtliahdlllmnkkaaDoor
