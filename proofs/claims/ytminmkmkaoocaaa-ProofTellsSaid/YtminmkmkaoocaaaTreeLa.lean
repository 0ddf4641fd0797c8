/-
  Contracts of the landed package tree: isValue, isFull, mayStand, bit.
-/
import Derived.Test.YtminmkmkaoocaaaTreeB
import Derived.Test.YtminmkmkaoocaaaPrA
import Derived.Test.YtminmkmkaoocaaaRoad
import Derived.Test.YtminmkmkaoocaaaBits
import Derived.Test.YtminmkmkaoocaaaMem
namespace Go.Proofs.Ytminmkmkaoocaaa
open Go.RowKit
set_option linter.unusedVariables false
set_option linter.unusedSimpArgs false
set_option maxRecDepth 100000

theorem built_prv (A : Option Addr) (n c : Nat) : Try.prog.built 76 [(1, .slice A n c)] = some (z0.1.map bv ++ [Value.slice A n c]).toArray := by kernel_rfl
theorem mayP_one (k : Dg) (v : List UInt8) : mayP [⟨k, v⟩] = valB v := by
  unfold mayP
  simp [chain]
theorem PTIsValue_is (v : List UInt8) (A : Option Addr) (c : Nat) (b : Bool) (w : World) (hr : Rd w A v) (h1 : v.length ≤ c) (h2 : c ≤ maxLen) (hb : valB v = b) :
    Calls Try.prog 26 #[.slice A v.length c] w fun e w' => e = .returned (.bool b) ∧ Below w.heap.size w w' := by
  have hbu := hid (built_prv A v.length c)
  have hrow := row_all (E := 76) (w := w) (xs := [(⟨z0, v⟩ : Pr)]) (css := [z0.1.map bv ++ [Value.slice A v.length c]]) rfl (fun j x vs hx hv => by
    rcases j with _ | j
    · simp at hx hv; subst hx hv; exact rep_pr_mk z0 v A c h1 h2 (hr.row (F := fun _ => True) fun _ _ _ => trivial)
    · simp at hx)
  have hP := PCheck_any _ _ 1 1 [(⟨z0, v⟩ : Pr)] _ hrow rfl (by simp)
  have hlen := hid (len_pr z0 (Value.slice A v.length c))
  rw [mayP_one, hb] at hP
  have hfl : [z0.1.map bv ++ [Value.slice A v.length c]].flatten = z0.1.map bv ++ [Value.slice A v.length c] := by simp
  rw [hfl] at hP
  have W0 := ext_alloc w (.cells (z0.1.map bv ++ [Value.slice A v.length c]).toArray 76)
  clear hrow hfl hb
  generalize z0.1.map bv = dz at *
  replace hP := hid hP
  go_enter Try.func26, Try.ntmps26
  go_wp2_with (first
    | ((with_reducible refine wpList_built rfl 76 _ rfl (dz ++ [Value.slice A v.length c] : List Value).toArray [(1, Value.slice A v.length c)] ?_ ?_ ?_); exact hbu.out; rfl)
    | ((with_reducible refine wpList_buildOne slotPr (by decide) rfl (.tmp 4) rfl (dz ++ [Value.slice A v.length c] : List Value) ?_ hlen.out ?_); rfl))
  refine hP.out.mono ?_
  rintro e w2 ⟨rfl, hb2⟩
  cases b
  · go_wp2
    go_ret
    exact ⟨rfl, W0.trans (hb2.mono W0.size)⟩
  · go_wp2
    go_ret
    exact ⟨rfl, W0.trans (hb2.mono W0.size)⟩
theorem PTIsFull_any (A : Option Addr) (n c : Nat) (root : Int) (w : World) :
    Calls Try.prog 27 #[.agg #[.slice A n c, .int .i64 root]] w fun e w' => e = .returned (.bool (decide (261844 < n))) ∧ Below w.heap.size w w' := by
  have W0 := ext_alloc w (.cells #[.slice A n c, .int .i64 root] 24)
  have y := (BoxT.new w A n c root 24).ns
  have e : decide ((261844 : Int) < (n : Int)) = decide (261844 < n) := by simp; omega
  go_enter Try.func27, Try.ntmps27
  go_wp2
  go_ret
  exact ⟨ret_bP (by first | rfl | (simp; done) | (simp; omega)), W0⟩
theorem PTBit_is (k : Dg) (d : Nat) (hd : d < 256) (u : Value) (w : World) (hu : u = .agg (k.1.map bv).toArray) :
    Calls Try.prog 53 #[u, .int .i64 (d : Int)] w fun e w' => e = .returned (.int .u8 (kb k.1 d : Int)) ∧ Below w.heap.size w w' := by
  subst hu
  have hB := fun W => PBit_any k.1 d W k.2
  rw [show bitV k.1 (d : Int) = kb k.1 d by unfold bitV; rw [if_pos (by omega)]; rfl] at hB
  have W0 := ext_alloc w (.cells (k.1.map bv).toArray 26)
  have r0 := rangeOf (heap_alloc_new w (.cells (k.1.map bv).toArray 26))
  have hu := Try.underlying26
  have hi := hid (sizeDgT k)
  generalize k.1.map bv = dk at *
  generalize kb k.1 d = z at *
  replace r0 := hid r0
  go_enter Try.func53, Try.ntmps53
  go_wp2_with (first
    | ((with_reducible refine wpList_load_rng rfl 26 (.tmp 2) rfl w.heap.size 0 rfl dk _ ?_ hu rfl hi.out ?_); exact r0.out))
  refine (hB _).mono ?_
  rintro e w2 ⟨rfl, hb2⟩
  go_wp2
  go_ret
  exact ⟨rfl, W0.trans (hb2.mono W0.size)⟩

set_option maxHeartbeats 1600000 in
theorem PMayStand_any (F : Nat → Prop) (x : Nd) (A : Option Addr) (c a : Nat) (w : World) (hr : Row F w A x.v) (h1 : x.v.length ≤ c) (h2 : c ≤ maxLen) (ha : a ≤ 9223372036854775806) :
    Calls Try.prog 46 #[.agg (ndC x A c).toArray, .int .i64 ((a : Int) + 1)] w fun e w' => e = .returned (.bool (oneN x a)) ∧ Below w.heap.size w w' := by
  have W0 := ext_alloc w (.cells (ndC x A c).toArray 54)
  have hb := BoxN.new w x A c 54
  have hrd := hr.rd.bel W0
  have hl := hb.leaf
  have hv := hb.val
  have hL := hb.l
  have hR := hb.r
  have hk := hid hb.key
  have hu := Try.underlying26
  have hi := hid (sizeDgT x.k)
  have hz := hid built_dg0
  obtain ⟨vb, hvb⟩ : ∃ vb, valB x.v = vb := ⟨_, rfl⟩
  obtain ⟨kb, hkb⟩ : ∃ kb, decide (x.k = z0) = kb := ⟨_, rfl⟩
  have hE : ∀ W, (Op.equalIn 10000 26 (.agg (x.k.1.map bv).toArray) (.agg (z0.1.map bv).toArray)).run Try.prog W = .ok kb W := fun W => eqd_is x.k z0 kb hkb W
  obtain ⟨ans, hans⟩ : ∃ ans, oneN x a = ans := ⟨_, rfl⟩
  rw [hans]
  have hA : oneN x a = ans := hans
  unfold oneN at hA
  rw [hvb, hkb] at hA
  replace hA := hid hA
  obtain ⟨leaf, k, v, l, r⟩ := x
  dsimp only at *
  clear hans hb hkb hr
  have hI := fun W hW => PTIsValue_is v A c vb W hW h1 h2 hvb
  generalize hcs : ndC ⟨leaf, k, v, l, r⟩ A c = cs at *
  generalize k.1.map bv = dk at *
  generalize z0.1.map bv = dz at *
  clear hcs
  replace hvb := hid hvb
  replace hI := hid hI
  replace hrd := hid hrd
  cases leaf
  · have hA2 : (decide (0 ≤ l ∧ l ≤ a ∧ 0 ≤ r ∧ r ≤ a ∧ ¬ (l = 0 ∧ r = 0)) && kb && decide (v = [])) = ans := by rw [← hA.out, if_neg (by decide)]
    clear hA
    cases kb
    · have hA3 : false = ans := by rw [← hA2, Bool.and_false, Bool.false_and]
      replace hA3 := hid hA3
      clear hA2
      go_enter Try.func46, Try.ntmps46
      go_wp2_with (first | ((with_reducible refine wpList_load_rng rfl 26 (.tmp 20) rfl w.heap.size 1 rfl dk _ ?_ hu rfl hi.out ?_); exact hk.out) | ((with_reducible refine wpList_built rfl 26 _ rfl dz.toArray [] ?_ ?_ ?_); exact hz.out; rfl))
      go_ret
      exact ⟨ret_bP hA3.out, W0⟩
    rw [Bool.and_true] at hA2
    rcases v with _ | ⟨v1, v2⟩
    case cons =>
      have hA3 : false = ans := by rw [← hA2, decide_eq_false (show ¬ (v1 :: v2 = []) by simp), Bool.and_false]
      replace hA3 := hid hA3
      clear hA2
      have q0 : (((v1 :: v2).length : Int) == 0) = false := beq_eq_false_iff_ne.2 (by simp; omega)
      generalize (v1 :: v2).length = vl at *
      go_enter Try.func46, Try.ntmps46
      go_wp2_with (first | ((with_reducible refine wpList_load_rng rfl 26 (.tmp 20) rfl w.heap.size 1 rfl dk _ ?_ hu rfl hi.out ?_); exact hk.out) | ((with_reducible refine wpList_built rfl 26 _ rfl dz.toArray [] ?_ ?_ ?_); exact hz.out; rfl))
      go_ret
      exact ⟨ret_bP hA3.out, W0⟩
    rw [decide_eq_true (show ([] : List UInt8) = [] from rfl), Bool.and_true] at hA2
    have no : ¬ (0 ≤ l ∧ l ≤ a ∧ 0 ≤ r ∧ r ≤ a ∧ ¬ (l = 0 ∧ r = 0)) → false = ans := fun h => by rw [← hA2, decide_eq_false h]
    replace no := hid no
    by_cases q1 : l < 0
    · replace no := hid (no.out (by omega))
      have pp : decide ((0 : Int) ≤ l) = false := decide_eq_false (by omega)
      go_enter Try.func46, Try.ntmps46
      go_wp2_with (first | ((with_reducible refine wpList_load_rng rfl 26 (.tmp 20) rfl w.heap.size 1 rfl dk _ ?_ hu rfl hi.out ?_); exact hk.out) | ((with_reducible refine wpList_built rfl 26 _ rfl dz.toArray [] ?_ ?_ ?_); exact hz.out; rfl))
      go_ret
      exact ⟨ret_bP no.out, W0⟩
    by_cases q2 : (a : Int) < l
    · replace no := hid (no.out (by omega))
      have p1 : decide ((0 : Int) ≤ l) = true := decide_eq_true (by omega)
      have pp : decide (l < (a : Int) + 1) = false := decide_eq_false (by omega)
      go_enter Try.func46, Try.ntmps46
      go_wp2_with (first | ((with_reducible refine wpList_load_rng rfl 26 (.tmp 20) rfl w.heap.size 1 rfl dk _ ?_ hu rfl hi.out ?_); exact hk.out) | ((with_reducible refine wpList_built rfl 26 _ rfl dz.toArray [] ?_ ?_ ?_); exact hz.out; rfl))
      go_ret
      exact ⟨ret_bP no.out, W0⟩
    by_cases q3 : r < 0
    · replace no := hid (no.out (by omega))
      have p1 : decide ((0 : Int) ≤ l) = true := decide_eq_true (by omega)
      have p2 : decide (l < (a : Int) + 1) = true := decide_eq_true (by omega)
      have pp : decide ((0 : Int) ≤ r) = false := decide_eq_false (by omega)
      go_enter Try.func46, Try.ntmps46
      go_wp2_with (first | ((with_reducible refine wpList_load_rng rfl 26 (.tmp 20) rfl w.heap.size 1 rfl dk _ ?_ hu rfl hi.out ?_); exact hk.out) | ((with_reducible refine wpList_built rfl 26 _ rfl dz.toArray [] ?_ ?_ ?_); exact hz.out; rfl))
      go_ret
      exact ⟨ret_bP no.out, W0⟩
    by_cases q4 : (a : Int) < r
    · replace no := hid (no.out (by omega))
      have p1 : decide ((0 : Int) ≤ l) = true := decide_eq_true (by omega)
      have p2 : decide (l < (a : Int) + 1) = true := decide_eq_true (by omega)
      have p3 : decide ((0 : Int) ≤ r) = true := decide_eq_true (by omega)
      have pp : decide (r < (a : Int) + 1) = false := decide_eq_false (by omega)
      go_enter Try.func46, Try.ntmps46
      go_wp2_with (first | ((with_reducible refine wpList_load_rng rfl 26 (.tmp 20) rfl w.heap.size 1 rfl dk _ ?_ hu rfl hi.out ?_); exact hk.out) | ((with_reducible refine wpList_built rfl 26 _ rfl dz.toArray [] ?_ ?_ ?_); exact hz.out; rfl))
      go_ret
      exact ⟨ret_bP no.out, W0⟩
    have p1 : decide ((0 : Int) ≤ l) = true := decide_eq_true (by omega)
    have p2 : decide (l < (a : Int) + 1) = true := decide_eq_true (by omega)
    have p3 : decide ((0 : Int) ≤ r) = true := decide_eq_true (by omega)
    have p4 : decide (r < (a : Int) + 1) = true := decide_eq_true (by omega)
    by_cases q5 : l = 0
    · have no2 : (r != 0) = ans := by
        subst q5
        by_cases h : r = 0
        · subst h; exact no.out (by omega)
        · rw [← hA2, decide_eq_true (show 0 ≤ (0 : Int) ∧ (0 : Int) ≤ a ∧ 0 ≤ r ∧ r ≤ a ∧ ¬ ((0 : Int) = 0 ∧ r = 0) from ⟨by omega, by omega, by omega, by omega, fun e => h e.2⟩)]
          exact bne_iff_ne.2 h
      replace no2 := hid no2
      subst q5
      clear hA2 no
      go_enter Try.func46, Try.ntmps46
      go_wp2_with (first | ((with_reducible refine wpList_load_rng rfl 26 (.tmp 20) rfl w.heap.size 1 rfl dk _ ?_ hu rfl hi.out ?_); exact hk.out) | ((with_reducible refine wpList_built rfl 26 _ rfl dz.toArray [] ?_ ?_ ?_); exact hz.out; rfl))
      go_ret
      exact ⟨ret_bP no2.out, W0⟩
    · have yes : true = ans := by rw [← hA2, decide_eq_true (show 0 ≤ l ∧ l ≤ a ∧ 0 ≤ r ∧ r ≤ a ∧ ¬ (l = 0 ∧ r = 0) from ⟨by omega, by omega, by omega, by omega, fun e => q5 e.1⟩)]
      have p5 : (l != 0) = true := bne_iff_ne.2 q5
      replace yes := hid yes
      clear hA2 no
      go_enter Try.func46, Try.ntmps46
      go_wp2_with (first | ((with_reducible refine wpList_load_rng rfl 26 (.tmp 20) rfl w.heap.size 1 rfl dk _ ?_ hu rfl hi.out ?_); exact hk.out) | ((with_reducible refine wpList_built rfl 26 _ rfl dz.toArray [] ?_ ?_ ?_); exact hz.out; rfl))
      go_ret
      exact ⟨ret_bP yes.out, W0⟩
  · have hA2 : (vb && decide (l = 0) && decide (r = 0)) = ans := by rw [← hA.out, if_pos rfl]
    replace hA2 := hid hA2
    clear hA
    go_enter Try.func46, Try.ntmps46
    go_wp2_with fail
    refine (hI.out _ hrd.out).mono ?_
    rintro e w7 ⟨rfl, hb7⟩
    have W7 := W0.trans (hb7.mono W0.size)
    have hL7 := (hb7.cell (World.block_lt_of_cell? _ _ hL)).trans hL
    have hR7 := (hb7.cell (World.block_lt_of_cell? _ _ hR)).trans hR
    cases vb
    · go_wp2
      go_ret
      exact ⟨ret_bP hA2.out, W7⟩
    · by_cases hl0 : l = 0
      · subst hl0
        go_wp2
        go_ret
        exact ⟨ret_bP (by rw [← hA2.out]; simp; rfl), W7⟩
      · have ql : (l == 0) = false := beq_eq_false_iff_ne.2 hl0
        go_wp2
        go_ret
        exact ⟨ret_bP (by rw [← hA2.out]; simp [hl0]), W7⟩
end Go.Proofs.Ytminmkmkaoocaaa
