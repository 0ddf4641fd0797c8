/-
  The sixth law file's 'spoil': a tree written over.
-/
import Derived.Test.YtnoglodggchgpaaDoorMutI
import Derived.Test.YtnoglodggchgpaaDoorTreeB
import Derived.Deep.RegionWith
import Derived.StillTailTactics
import Derived.IntWalk
namespace Go.Proofs.YtnoglodggchgpaaDoor
open Go.RowKit
set_option linter.unusedVariables false
set_option maxRecDepth 100000

set_option maxHeartbeats 1000000 in
theorem spoil6_any (F : Nat → Prop) (A : Option Addr) (c : Nat) (ns : List Nd) (root : Int) (w : World) (hr : Row F w A ns) (hs : ∀ b, F b → Soft w b) (hc : ns.length ≤ 9223372036854775807) :
    Calls Tryd.prog 44 #[.agg #[.slice A ns.length c, .int .i64 root]] w fun e w' => e = .returned (.tuple #[]) ∧ Chg F w w' := by
  have W0 := ext_alloc w (.cells #[.slice A ns.length c, .int .i64 root] 44)
  have bT := BoxT.new w A ns.length c root 44
  have hbs : Soft (w.alloc (.cells #[.slice A ns.length c, .int .i64 root] 44)) w.heap.size := ⟨_, _, heap_alloc_new w _⟩
  have hr0 := hr.bel W0
  have hs0 : ∀ b, F b → Soft (w.alloc (.cells #[.slice A ns.length c, .int .i64 root] 44)) b := fun b hb => (hs b hb).kept (W0.block b (hs b hb).lt)
  have y0 := bT.ns
  have fin : ∀ W, MutI F (w.alloc (.cells #[.slice A ns.length c, .int .i64 root] 44)) W → Chg F w W := fun W h => (Chg.of_bel W0).trans h.chg
  replace fin := hid fin
  clear hr hs
  go_enter Tryd.func44, Tryd.ntmps44
  go_wp2
  generalize w.alloc (.cells #[.slice A ns.length c, .int .i64 root] 44) = w0 at *
  go_loopw [2, 3] (fun i _ wr => ∃ k : Nat, k ≤ ns.length ∧ i = .int .i64 k ∧ MutI F w0 wr) (fun i _ _ => ns.length - (intOf i).toNat)
  case atStart => exact ⟨0, Nat.zero_le _, rfl, MutI.refl _ _⟩
  case round =>
    obtain ⟨k, hk, rfl, hm⟩ := hrel
    have y1 := hm.same hbs y0 (not_sameI_slice _ _ _)
    by_cases hlt : k < ns.length
    · obtain ⟨b, o, rfl, hFb, -, hcs⟩ := hr0 (by omega)
      obtain ⟨vs, h1, h2⟩ := hcs k _ (List.getElem?_eq_getElem hlt)
      obtain ⟨A', c', rfl, hv1, hv2, hrv, -, -⟩ := rep_nd h1
      rw [size_nd] at h2
      have hsb := hs0 b hFb
      have hvl : ns[k].v.length ≤ 9223372036854775807 := by unfold maxLen at hv2; omega
      have R2 := hid (nd_val h2)
      have R3 := hid (nd_l h2)
      clear h1 h2 hcs
      generalize ns[k].l = l at *
      generalize ns[k].v = v at *
      have Hs := hid hs0
      clear hs0 hr0 y1
      have y1 := hm.same hbs y0 (not_sameI_slice _ _ _)
      go_wp2
      go_loopw [3] (fun i wr => ∃ j : Nat, j ≤ v.length ∧ i = .int .i64 j ∧ MutI F w0 wr) (fun i _ => v.length - (intOf i).toNat)
      case atStart => exact ⟨0, Nat.zero_le _, rfl, hm⟩
      case round =>
        obtain ⟨j, hj, rfl, hm2⟩ := hrel
        have cS := hm2.same hsb R2.out (not_sameI_slice _ _ _)
        have y2 := hm2.same hbs y0 (not_sameI_slice _ _ _)
        by_cases hlt2 : j < v.length
        · obtain ⟨b2, o2, rfl, hFb2, -, hcs2⟩ := hrv (by omega)
          have hsb2 := Hs.out b2 hFb2
          obtain ⟨n, hn⟩ : ∃ n : Int, wr.cell? ⟨b2, o2 + j, none⟩ = some (.int .u8 n) := by
            obtain ⟨vs, rfl, h5⟩ := hcs2 j _ (List.getElem?_eq_getElem hlt2)
            have h6 := h5 0 (bv v[j]) rfl
            rw [Nat.add_zero, show Enc.size UInt8 = 1 from rfl, Nat.mul_one] at h6
            exact hm2.num hsb2 h6
          have hf := (hsb2.mutI hm2).free (o2 + j)
          clear hcs2 hrv
          have Hn := hid hn
          have Hm := hid hm2
          have HF2 := hid hFb2
          clear hm2 hm hFb2 hsb2 hsb y0 y1 hbs
          go_wp2
          go_still_tail 17, (by kernel_rfl)
          go_wp2
          go_roundw
          case rel => exact ⟨j + 1, by omega, by go_num, (Hm.out.store HF2.out Hn.out _).drew⟩
          case measure => simp [intOf]; omega
        · obtain rfl : j = v.length := by omega
          obtain ⟨n, hn⟩ := hm2.num hsb R3.out
          have hf := (hsb.mutI hm2).free (o + k * 36 + 34)
          have Hn := hid hn
          have Hm := hid hm2
          have HF := hid hFb
          clear hm2 hm hFb hsb hrv y0 y1 hbs
          go_wp2
          go_roundw
          case rel => exact ⟨k + 1, by omega, by go_num, Hm.out.store HF.out Hn.out _⟩
          case measure => simp [intOf]; omega
    · obtain rfl : k = ns.length := by omega
      go_wp2
      go_end0
      exact ⟨rfl, fin.out _ hm⟩
theorem spoil6_held (lo hi : Nat) (A : Option Addr) (c : Nat) (ns : List Nd) (root : Int) (w : World) (h : Held w lo hi A ns) (hc : ns.length ≤ 9223372036854775807) :
    Calls Tryd.prog 44 #[.agg #[.slice A ns.length c, .int .i64 root]] w fun e w' => e = .returned (.tuple #[]) ∧ Chg (fun b => lo ≤ b ∧ b < hi) w w' := by
  obtain ⟨F, h1, h2⟩ := h
  refine (spoil6_any F A c ns root w h1 (fun b hb => (h2 b hb).2.2) hc).mono ?_
  rintro e w' ⟨he, hm⟩
  exact ⟨he, hm.mono fun b _ hb => ⟨(h2 b hb).1, (h2 b hb).2.1⟩⟩
end Go.Proofs.YtnoglodggchgpaaDoor
