/-
  The fifth law file's 'spoil': pairs written over.
-/
import Derived.Test.YtiogdenlaelkbaaMut
import Derived.Test.YtiogdenlaelkbaaSame
import Derived.Test.YtiogdenlaelkbaaRef05c
import Derived.Deep.RegionWith
import Derived.StillTailTactics
import Derived.IntWalk
namespace Go.Proofs.Ytiogdenlaelkbaa
open Go.RowKit
set_option linter.unusedVariables false

set_option maxRecDepth 100000 in
set_option maxHeartbeats 1000000 in
theorem spoil5_any (F : Nat → Prop) (A : Option Addr) (c n : Nat) (ps : List Pr) (w : World) (hr : Row F w A ps) (hs : ∀ b, F b → Soft w b) (hn : n = ps.length) (hc : ps.length ≤ 9223372036854775807) :
    Calls Try.prog 19 #[.slice A n c] w fun e w' => e = .returned (.tuple #[]) ∧ Mut F w w' := by
  subst hn
  go_enter Try.func19, Try.ntmps19
  go_wp2
  go_loopw [2, 3] (fun i _ wr => ∃ k : Nat, k ≤ ps.length ∧ i = .int .i64 k ∧ Mut F w wr) (fun i _ _ => ps.length - (intOf i).toNat)
  case atStart => exact ⟨0, Nat.zero_le _, rfl, Mut.refl _ _⟩
  case round =>
    obtain ⟨k, hk, rfl, hm⟩ := hrel
    by_cases hlt : k < ps.length
    · obtain ⟨b, o, rfl, hFb, -, hcs⟩ := hr (by omega)
      obtain ⟨r1, A', c', r2, -, hv1, hv2, hrv⟩ := cells_pr hcs hlt
      have hsb := hs b hFb
      have hvl : ps[k].v.length ≤ 9223372036854775807 := by unfold maxLen at hv2; omega
      obtain ⟨x0, hx0⟩ : ∃ x0 : UInt8, (ps[k].k.1.map bv)[0]? = some (bv x0) := by
        have := ps[k].k.2
        exact ⟨ps[k].k.1[0], by rw [List.getElem?_map, List.getElem?_eq_getElem (by omega)]; rfl⟩
      have hk0 := r1 0 _ hx0
      clear r1 hx0 hcs
      generalize ps[k].v = v at *
      have R2 := hid r2
      have Hk0 := hid hk0
      have Hs := hid hs
      clear hk0 r2 hs hr
      go_wp2
      go_loopw [3] (fun i wr => ∃ j : Nat, j ≤ v.length ∧ i = .int .i64 j ∧ Mut F w wr) (fun i _ => v.length - (intOf i).toNat)
      case atStart => exact ⟨0, Nat.zero_le _, rfl, hm⟩
      case round =>
        obtain ⟨j, hj, rfl, hm2⟩ := hrel
        have cS := hm2.same hsb R2.out (not_u8_slice _ _ _)
        by_cases hlt2 : j < v.length
        · obtain ⟨b2, o2, rfl, hFb2, -, hcs2⟩ := hrv (by omega)
          have hsb2 := Hs.out b2 hFb2
          obtain ⟨n, hn⟩ : ∃ n : Int, wr.cell? ⟨b2, o2 + j, none⟩ = some (.int .u8 n) := by
            obtain ⟨vs, rfl, h5⟩ := hcs2 j _ (List.getElem?_eq_getElem hlt2)
            have h6 := h5 0 (bv v[j]) rfl
            rw [Nat.add_zero, show Enc.size UInt8 = 1 from rfl, Nat.mul_one] at h6
            exact hm2.byte hsb2 h6
          have hf := (hsb2.mut hm2).free (o2 + j)
          clear hcs2 hrv
          have Hn := hid hn
          have Hm := hid hm2
          have HF2 := hid hFb2
          have HS2 := hid hsb2
          clear hm2 hm hFb2 hsb2 hsb
          go_wp2
          go_still_tail 15, (by kernel_rfl)
          go_wp2
          go_roundw
          case rel => exact ⟨j + 1, by omega, by go_num, (Hm.out.store HF2.out HS2.out Hn.out _).drew⟩
          case measure => simp [intOf]; omega
        · obtain rfl : j = v.length := by omega
          obtain ⟨n, hn⟩ := hm2.byte hsb Hk0.out
          have hf := (hsb.mut hm2).free (o + k * 33)
          rw [Nat.add_zero] at hn
          have Hn := hid hn
          have Hm := hid hm2
          have HF := hid hFb
          have HSb := hid hsb
          clear hm2 hm hFb hsb hrv
          go_wp2
          go_still_tail 11, (by kernel_rfl)
          go_wp2
          go_roundw
          case rel => exact ⟨k + 1, by omega, by go_num, (Hm.out.store HF.out HSb.out Hn.out _).drew⟩
          case measure => simp [intOf]; omega
    · obtain rfl : k = ps.length := by omega
      go_wp2
      go_end0
      exact ⟨rfl, hm⟩
theorem spoil5_held (lo hi : Nat) (A : Option Addr) (c n : Nat) (ps : List Pr) (w : World) (h : Held w lo hi A ps) (hn : n = ps.length) (hc : ps.length ≤ 9223372036854775807) :
    Calls Try.prog 19 #[.slice A n c] w fun e w' => e = .returned (.tuple #[]) ∧ Chg (fun b => lo ≤ b ∧ b < hi) w w' := by
  obtain ⟨F, h1, h2⟩ := h
  refine (spoil5_any F A c n ps w h1 (fun b hb => (h2 b hb).2.2) hn hc).mono ?_
  rintro e w' ⟨he, hm⟩
  exact ⟨he, hm.chg.mono fun b _ hb => ⟨(h2 b hb).1, (h2 b hb).2.1⟩⟩
end Go.Proofs.Ytiogdenlaelkbaa
