/-
  Contracts of the landed package proof: Check, Told.
-/
import Derived.Test.YtapnhdpgogfceaaGreatDoorPfA
import Derived.Test.YtapnhdpgogfceaaGreatDoorBits
namespace Go.Proofs.YtapnhdpgogfceaaGreatDoor
open Go.RowKit
set_option linter.unusedVariables false
set_option linter.unusedSimpArgs false
set_option maxRecDepth 100000

set_option maxHeartbeats 1000000 in
theorem PfCheck_is (x : Pf) (A : Option Addr) (c : Nat) (D : Option Addr) (d : Nat) (b : Bool) (w : World) (hr : Rd w A x.v) (h1 : x.v.length ≤ c) (h2 : c ≤ maxLen) (hb : mayF x = b) :
    Calls Tryz.prog 16 #[.agg (pfC x A c D d).toArray] w fun e w' => e = .returned (.int .i64 (if b = true then 0 else 8)) ∧ Below w.heap.size w w' := by
  have W0 := ext_alloc w (.cells (pfC x A c D d).toArray 30)
  have B0 := BoxP.new w x A c D d 30
  have hrd := hid (hr.bel W0)
  have ha := hid B0.all
  have hs := B0.sd
  have hu := Tryz.underlying30
  have hi := hid (sizePfC x A c D d)
  obtain ⟨eb, heb⟩ : ∃ eb, endP x = eb := ⟨_, rfl⟩
  have hM := fun W (hW : Rd W A x.v) => PfMayEnd_is x A c D d eb W hW h1 h2 heb
  unfold mayF at hb
  rw [heb] at hb
  clear heb B0 hr
  by_cases hle : x.ss.length ≤ 256
  · have hq : decide ((256 : Int) < (x.ss.length : Int)) = false := decide_eq_false (by omega)
    rw [decide_eq_true hle, Bool.true_and] at hb
    subst hb
    clear hle
    generalize x.ss.length = sl at *
    generalize pfC x A c D d = cs at *
    replace hM := hid hM
    go_enter Tryz.func16, Tryz.ntmps16
    go_wp2_with ((with_reducible refine wpList_load_rng ?_ 30 (.tmp 1) rfl w.heap.size 0 rfl cs _ ?_ hu rfl hi.out ?_); rfl; exact ha.out)
    refine (hM.out _ hrd.out).mono ?_
    rintro e w7 ⟨rfl, hb7⟩
    cases eb
    · go_wp2
      go_ret
      exact ⟨rfl, W0.trans (hb7.mono W0.size)⟩
    · go_wp2
      go_ret
      exact ⟨rfl, W0.trans (hb7.mono W0.size)⟩
  · have hq : decide ((256 : Int) < (x.ss.length : Int)) = true := decide_eq_true (by omega)
    rw [decide_eq_false hle, Bool.false_and] at hb
    subst hb
    clear hle
    generalize x.ss.length = sl at *
    generalize pfC x A c D d = cs at *
    go_enter Tryz.func16, Tryz.ntmps16
    go_wp2
    go_ret
    exact ⟨rfl, W0⟩
set_option maxHeartbeats 1000000 in
theorem PfTold_is (x : Pf) (A : Option Addr) (c : Nat) (D : Option Addr) (d : Nat) (b : Bool) (w : World) (hr : Rd w A x.v) (h1 : x.v.length ≤ c) (h2 : c ≤ maxLen) (hl : x.v.length ≤ 1000000) (hb : toldF x = b) :
    Calls Tryz.prog 32 #[.agg (pfC x A c D d).toArray] w fun e w' => ∃ A' c', e = .returned (.tuple #[.slice A' (if b = true then x.v else []).length c', .bool b]) ∧ Own 5 w' w.heap.size A' c' (if b = true then x.v else []) ∧ Below w.heap.size w w' := by
  have W0 := ext_alloc w (.cells (pfC x A c D d).toArray 30)
  have B0 := BoxP.new w x A c D d 30
  have hrd := hid (hr.bel W0)
  have ha := hid B0.all
  have hv := B0.val
  have he := B0.en
  have hu := Tryz.underlying30
  have hi := hid (sizePfC x A c D d)
  obtain ⟨mb, hmb⟩ : ∃ mb, mayF x = mb := ⟨_, rfl⟩
  have hM := fun W (hW : Rd W A x.v) => PfCheck_is x A c D d mb W hW h1 h2 hmb
  have hT := fun W (hW : Rd W A x.v) => Clone_any A x.v.length c x.v W hW rfl hl
  unfold toldF at hb
  rw [hmb] at hb
  clear hmb B0 hr
  cases mb with
  | false =>
    rw [Bool.false_and] at hb
    subst hb
    clear hT
    generalize pfC x A c D d = cs at *
    replace hM := hid hM
    go_enter Tryz.func32, Tryz.ntmps32
    go_wp2_with ((with_reducible refine wpList_load_rng ?_ 30 (.tmp 1) rfl w.heap.size 0 rfl cs _ ?_ hu rfl hi.out ?_); rfl; exact ha.out)
    refine (hM.out _ hrd.out).mono ?_
    rintro e w7 ⟨rfl, hb7⟩
    go_wp2
    go_ret2
    exact ⟨none, 0, rfl, Own.nil _ _, W0.trans (hb7.mono W0.size)⟩
  | true =>
    rw [Bool.true_and] at hb
    by_cases e1 : x.e = 1
    · rw [decide_eq_true e1] at hb
      subst hb
      rw [e1] at he
      replace he : (w.alloc (.cells (pfC x A c D d).toArray 30)).cell? ⟨w.heap.size, 32, none⟩ = some (.int .u8 1) := he
      rw [if_pos rfl] at *
      clear e1
      generalize hvv : x.v = v at *
      generalize pfC x A c D d = cs at *
      replace hM := hid hM
      replace hT := hid hT
      replace hvv := hid hvv
      go_enter Tryz.func32, Tryz.ntmps32
      go_wp2_with ((with_reducible refine wpList_load_rng ?_ 30 (.tmp 1) rfl w.heap.size 0 rfl cs _ ?_ hu rfl hi.out ?_); rfl; exact ha.out)
      refine (hM.out _ hrd.out).mono ?_
      rintro e w7 ⟨rfl, hb7⟩
      have hv7 := (hb7.cell (World.block_lt_of_cell? _ _ hv)).trans hv
      have he7 := (hb7.cell (World.block_lt_of_cell? _ _ he)).trans he
      have W7 := hid (W0.trans (hb7.mono W0.size))
      have r7 := hid (hrd.out.bel hb7)
      clear hv he hb7
      go_wp2_with fail
      refine (hT.out _ r7.out).mono ?_
      rintro e w8 ⟨A8, c8, rfl, ho8, hb8⟩
      go_wp2
      go_ret2
      exact ⟨A8, c8, rfl, ho8.base W7.out.size, W7.out.trans (hb8.mono W7.out.size)⟩
    · have n1 := bv_ne e1
      rw [decide_eq_false e1] at hb
      subst hb
      replace he : (w.alloc (.cells (pfC x A c D d).toArray 30)).cell? ⟨w.heap.size, 32, none⟩ = some (.int .u8 (x.e.toNat : Int)) := he
      replace n1 : ((x.e.toNat : Int) == 1) = false := n1
      clear e1 hT
      generalize x.e.toNat = en at *
      generalize pfC x A c D d = cs at *
      replace hM := hid hM
      go_enter Tryz.func32, Tryz.ntmps32
      go_wp2_with ((with_reducible refine wpList_load_rng ?_ 30 (.tmp 1) rfl w.heap.size 0 rfl cs _ ?_ hu rfl hi.out ?_); rfl; exact ha.out)
      refine (hM.out _ hrd.out).mono ?_
      rintro e w7 ⟨rfl, hb7⟩
      have he7 := (hb7.cell (World.block_lt_of_cell? _ _ he)).trans he
      clear he
      go_wp2
      go_ret2
      exact ⟨none, 0, rfl, Own.nil _ _, W0.trans (hb7.mono W0.size)⟩
end Go.Proofs.YtapnhdpgogfceaaGreatDoor
