/-
  The document's texts of digests: Hex.
-/
import Derived.Test.YtbindnoncghjjaaRef02f
import Derived.Test.YtbindnoncghjjaaShaG
namespace Go.Proofs.Ytbindnoncghjjaa
open Go.RowKit
set_option linter.unusedVariables false

set_option maxRecDepth 100000 in
set_option maxHeartbeats 1600000 in
theorem Hex_any (d : List UInt8) (w : World) (hd : d.length = 32) :
    Calls Try.prog 26 #[.agg (d.map bv).toArray] w fun r w' => r = .returned (.string (bstr (hexL d))) ∧ Below w.heap.size w w' := by
  obtain ⟨ds, hds⟩ : ∃ ds, ds = (d.map bv).toArray := ⟨_, rfl⟩
  rw [← hds]
  replace hds := hid hds
  replace hd := hid hd
  go_enter Try.func26, Try.ntmps26
  go_wp2_with fail
  go_loopw [3, 4] (fun v q wr => ∃ (i : Nat) (A' : Option Addr) (c' : Nat), i ≤ 32 ∧ q = .int .i64 i ∧ v = .slice A' (hexL (d.take i)).length c' ∧ Own 5 wr (w.heap.size + 1) A' c' (hexL (d.take i)) ∧ Below (w.heap.size + 1) (w.alloc (.cells ds 49)) wr) (fun _ q _ => 32 - (intOf q).toNat)
  case atStart => exact ⟨0, none, 0, Nat.zero_le _, rfl, rfl, Own.nil _ _, Below.refl _ _⟩
  case round =>
    obtain ⟨i, A', c', hi, rfl, rfl, ho, hb⟩ := hrel
    by_cases hlt : i < 32
    · as_aux_lemma =>
      have hil : i < d.length := by rw [hd.out]; exact hlt
      have cD : wr.cell? ⟨w.heap.size, i, none⟩ = some (.int .u8 (d[i].toNat : Int)) := by
        rw [hb.cell (p := ⟨w.heap.size, i, none⟩) (by simp)]
        have h1 := heap_alloc_new w (.cells ds 49)
        rw [hds.out] at h1 ⊢
        exact block_bcell h1 i hil
      have E := hid (hexL_take_succ d i hil)
      have hL := hexL_len (d.take i)
      rw [List.length_take] at hL
      have hL2 : (hexL (d.take i)).length ≤ 64 := by omega
      clear hL
      generalize d[i] = y at *
      generalize hexL (d.take i) = x at *
      have hy := y.toNat_lt
      have y0 : (0 : Int) ≤ (y.toNat : Int) / 16 := by omega
      have y6 : (0 : Int) ≤ (y.toNat : Int) % 16 := by omega
      have y7 : (y.toNat : Int) % 16 < 16 := by omega
      have y8 : ((y.toNat : Int) % 16).toNat = y.toNat % 16 := by omega
      have y1 : (y.toNat : Int) / 16 < 16 := by omega
      have y2 : ((y.toNat : Int) / 16).toNat = y.toNat / 16 := by omega
      have y3 : y.toNat / 16 < 16 := by omega
      have y5 : y.toNat % 16 < 16 := by omega
      have hlit := hid (show #[Value.int .u8 (((ByteArray.mk hexd.toArray)[y.toNat / 16]'(by show _ < 16; omega)).toNat : Int), Value.int .u8 (((ByteArray.mk hexd.toArray)[y.toNat % 16]'(by show _ < 16; omega)).toNat : Int)] = ((hexOf y).map bv).toArray by rw [hexd_at _ (by show _ < 16; omega), hexd_at _ (by show _ < 16; omega)]; rfl)
      have yw := all256 (p := fun y => IntKind.u8.wrap ((y.toNat : Int) / 16) = (y.toNat : Int) / 16) (by decide +kernel) y
      have ym : (y.toNat : Int).tmod 16 = (y.toNat : Int) % 16 := Int.tmod_eq_emod_of_nonneg (by omega)
      have yv := all256 (p := fun y => IntKind.u8.wrap ((y.toNat : Int) % 16) = (y.toNat : Int) % 16) (by decide +kernel) y
      have i1 : (i : Int) < 32 := by omega
      have hsz : w.heap.size + 1 ≤ wr.heap.size := by have := hb.size; simp at this; omega
      replace ho := hid ho
      replace hb := hid hb
      go_wp2_with fail
      go_region_law (refine step_app u8s rfl (.tmp 9) (.tmp 20) rfl (w.heap.size + 1) A' _ x.length 2 c' 2 x (hexOf y) rfl rfl rfl rfl (by exact Own.bel ho.out (by exact ⟨rfl, rfl, rfl, by simp, fun k hk => Below.heap_alloc _ _ _ hk⟩)) (by first | exact Rd.lit_ _ _ _ _ _ rfl hlit.out | exact Rd.drew (Rd.lit_ _ _ _ _ _ rfl hlit.out)) (by show _ + 2 ≤ _; omega) (by simp; omega) ?_; intro A2 c2 w2 ho2 hb2)
      all_goals
        go_wp2_with fail
        go_roundw
        case rel =>
          refine ⟨i + 1, A2, c2, by omega, by go_num, by rw [E.out, List.length_append], by rw [E.out]; exact ho2, Below.trans ?_ hb2⟩
          first | exact (hb.out.alloc (by omega) _).drew | exact (hb.out.drew).alloc (by show _ ≤ _; omega) _
        case measure => simp [intOf]; omega
    · as_aux_lemma =>
      obtain rfl : i = 32 := by omega
      have hx : d.take 32 = d := List.take_of_length_le (by rw [hd.out]; omega)
      rw [hx] at ho ⊢
      have k1 := run_conv_str u8s underU8 9 underStr ho.rd (hexL d).length c' rfl
      replace ho := hid ho
      go_wp2_with fail
      go_ret
      exact ⟨rfl, (ext_alloc w _).trans (hb.mono (by omega))⟩

end Go.Proofs.Ytbindnoncghjjaa
