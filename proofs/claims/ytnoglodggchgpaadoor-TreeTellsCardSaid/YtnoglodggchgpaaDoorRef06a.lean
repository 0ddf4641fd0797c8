/-
  The document's answers of layer 6: Great, one.
-/
import Derived.Test.YtnoglodggchgpaaDoorTreeB
import Derived.Test.YtnoglodggchgpaaDoorRefE
import Derived.Test.YtnoglodggchgpaaDoorBits
namespace Go.Proofs.YtnoglodggchgpaaDoor
open Go.RowKit
set_option linter.unusedVariables false
set_option linter.unusedSimpArgs false
set_option maxRecDepth 100000

def anyT (ns : List Nd) : Bool := ns.any fun x => decide (100 < x.v.length)
/-- Is a tree more than statements go through? -/
def greatT (ns : List Nd) (m : Nat) : Bool := anyT (ns.take (m + 1)) || decide (m < ns.length)
theorem anyT_take {ns : List Nd} {j : Nat} (hj : j < ns.length) : anyT (ns.take (j + 1)) = (anyT (ns.take j) || decide (100 < ns[j].v.length)) := by
  unfold anyT
  rw [List.take_succ_eq_append_getElem hj, List.any_append]
  simp
theorem anyT_part {ns : List Nd} {j m : Nat} (h : anyT (ns.take j) = true) (hj : j ≤ m) : anyT (ns.take m) = true := by
  unfold anyT at h ⊢
  rw [List.any_eq_true] at h ⊢
  obtain ⟨x, h1, h2⟩ := h
  refine ⟨x, ?_, h2⟩
  rw [show ns.take j = (ns.take m).take j by rw [List.take_take, Nat.min_eq_left hj]] at h1
  exact List.mem_of_mem_take h1
theorem greatT_no {ns : List Nd} {m : Nat} (h : greatT ns m = false) : ns.length ≤ m ∧ ∀ x ∈ ns, x.v.length ≤ 100 := by
  unfold greatT at h
  rw [Bool.or_eq_false_iff, decide_eq_false_iff_not] at h
  have hl : ns.length ≤ m := by omega
  refine ⟨hl, fun x hx => ?_⟩
  have h1 := h.1
  unfold anyT at h1
  rw [List.take_of_length_le (by omega), List.any_eq_false] at h1
  simpa using h1 x hx

set_option maxHeartbeats 1600000 in
theorem RGreatT_any (F : Nat → Prop) (A : Option Addr) (c m : Nat) (ns : List Nd) (root : Int) (w : World) (hr : Row F w A ns) (hc : ns.length ≤ 9223372036854775807) :
    Calls Tryd.prog 31 #[.agg #[.slice A ns.length c, .int .i64 root], .int .i64 (m : Int)] w fun e w' => e = .returned (.bool (greatT ns m)) ∧ Below w.heap.size w w' := by
  obtain ⟨ans, ha⟩ : ∃ ans, greatT ns m = ans := ⟨_, rfl⟩
  have hG : greatT ns m = (anyT (ns.take (m + 1)) || decide (m < ns.length)) := rfl
  rw [ha] at hG ⊢
  clear ha
  replace hG := hid hG
  have hb0 := BoxT.new w A ns.length c root 44
  have W0 := ext_alloc w (.cells #[.slice A ns.length c, .int .i64 root] 44)
  have hr0 := hr.bel W0
  have bns := hb0.ns
  replace hb0 := trivial
  go_enter Tryd.func31, Tryd.ntmps31
  go_wp2
  generalize w.alloc (.cells #[.slice A ns.length c, .int .i64 root] 44) = w0 at *
  go_loop [5] (fun i => ∃ k : Nat, k ≤ ns.length ∧ k ≤ m + 1 ∧ i = .int .i64 k ∧ anyT (ns.take k) = false) (fun i => ns.length - (intOf i).toNat)
  case atStart => exact ⟨0, Nat.zero_le _, Nat.zero_le _, rfl, rfl⟩
  case round =>
    obtain ⟨k, hk, hkm, rfl, hrel⟩ := hrel
    by_cases hlt : k < ns.length
    · by_cases hm : k ≤ m
      · have ht := anyT_take hlt
        obtain ⟨b, o, rfl, A', c', hR, _, h2, _⟩ := row_nd hr0 hlt
        have hcell := nd_val hR
        generalize ns[k].v = v at *
        rw [hrel, Bool.false_or] at ht
        replace hrel := hid hrel
        by_cases hv : 100 < v.length
        · rw [decide_eq_true hv] at ht
          replace ht := hid ht
          go_wp2
          go_ret
          exact ⟨ret_b (by rw [hG.out, anyT_part ht.out (by omega), Bool.true_or]), W0⟩
        · rw [decide_eq_false hv] at ht
          replace ht := hid ht
          go_wp2
          go_round
          case rel => exact ⟨k + 1, by omega, by omega, by go_num, ht.out⟩
          case measure => simp [intOf]; omega
      · obtain rfl : k = m + 1 := by omega
        replace hrel := hid hrel
        go_wp2
        go_ret
        exact ⟨ret_b (by rw [hG.out, hrel.out, Bool.false_or]), W0⟩
    · obtain rfl : k = ns.length := by omega
      rw [List.take_length] at hrel
      replace hrel := hid hrel
      go_wp2
      go_ret
      exact ⟨ret_b (by rw [hG.out, List.take_of_length_le (by omega), hrel.out, Bool.false_or]), W0⟩

set_option maxHeartbeats 1600000 in
theorem ROne_any (F : Nat → Prop) (x : Nd) (A : Option Addr) (c a : Nat) (w : World) (h1 : x.v.length ≤ 9223372036854775807) (ha : a ≤ 9223372036854775807) :
    Calls Tryd.prog 122 #[.agg (ndC x A c).toArray, .int .i64 (a : Int)] w fun e w' => e = .returned (.bool (oneN x a)) ∧ Below w.heap.size w w' := by
  have W0 := ext_alloc w (.cells (ndC x A c).toArray 50)
  have hb := BoxN.new w x A c 50
  have hl := hb.leaf
  have hv := hb.val
  have hL := hb.l
  have hR := hb.r
  have hk := hid hb.key
  have hu := Tryd.underlying23
  have hi := hid (sizeDgT x.k)
  have hz := hid built_dg0
  obtain ⟨vb, hvb⟩ : ∃ vb, valB x.v = vb := ⟨_, rfl⟩
  obtain ⟨kb, hkb⟩ : ∃ kb, decide (x.k = z0) = kb := ⟨_, rfl⟩
  have hE : ∀ W, (Op.equalIn 10000 23 (.agg (x.k.1.map bv).toArray) (.agg (z0.1.map bv).toArray)).run Tryd.prog W = .ok kb W := fun W => eqd_is x.k z0 kb hkb W
  obtain ⟨ans, hans⟩ : ∃ ans, oneN x a = ans := ⟨_, rfl⟩
  rw [hans]
  have hA : oneN x a = ans := hans
  unfold oneN at hA
  rw [hvb, hkb] at hA
  replace hA := hid hA
  obtain ⟨leaf, k, v, l, r⟩ := x
  dsimp only at *
  clear hans hb hkb
  generalize hcs : ndC ⟨leaf, k, v, l, r⟩ A c = cs at *
  generalize k.1.map bv = dk at *
  generalize z0.1.map bv = dz at *
  clear hcs
  replace hvb := hid hvb
  cases leaf
  · skip
    have no : ¬ (0 ≤ l ∧ l ≤ a ∧ 0 ≤ r ∧ r ≤ a ∧ ¬ (l = 0 ∧ r = 0)) → false = ans := fun h => by rw [← hA.out, if_neg (by decide), decide_eq_false h]; rfl
    replace no := hid no
    by_cases q1 : l < 0
    · replace no := hid (no.out (by omega))
      go_enter Tryd.func122, Tryd.ntmps122
      go_wp2
      go_ret
      exact ⟨ret_b no.out, W0⟩
    by_cases q2 : (a : Int) < l
    · replace no := hid (no.out (by omega))
      go_enter Tryd.func122, Tryd.ntmps122
      go_wp2
      go_ret
      exact ⟨ret_b no.out, W0⟩
    by_cases q3 : r < 0
    · replace no := hid (no.out (by omega))
      go_enter Tryd.func122, Tryd.ntmps122
      go_wp2
      go_ret
      exact ⟨ret_b no.out, W0⟩
    by_cases q4 : (a : Int) < r
    · replace no := hid (no.out (by omega))
      go_enter Tryd.func122, Tryd.ntmps122
      go_wp2
      go_ret
      exact ⟨ret_b no.out, W0⟩
    by_cases q5 : l = 0 ∧ r = 0
    · replace no := hid (no.out (by omega))
      obtain ⟨rfl, rfl⟩ := q5
      go_enter Tryd.func122, Tryd.ntmps122
      go_wp2
      go_ret
      exact ⟨ret_b no.out, W0⟩
    have yes : (kb && decide (v = [])) = ans := by rw [← hA.out, if_neg (by decide), decide_eq_true (show 0 ≤ l ∧ l ≤ a ∧ 0 ≤ r ∧ r ≤ a ∧ ¬ (l = 0 ∧ r = 0) from ⟨by omega, by omega, by omega, by omega, q5⟩), Bool.true_and]
    have qv : ((v.length : Int) == 0) = decide (v = []) := by cases v <;> simp <;> omega
    replace yes := hid yes
    clear no
    have q6 : decide (l < 0) = false := decide_eq_false q1
    have q7 : decide ((a : Int) < l) = false := decide_eq_false q2
    have q8 : decide (r < 0) = false := decide_eq_false q3
    have q9 : decide ((a : Int) < r) = false := decide_eq_false q4
    have qq : (l == 0) = false ∨ l = 0 ∧ (r == 0) = false := by
      by_cases h0 : l = 0
      · exact .inr ⟨h0, beq_eq_false_iff_ne.2 fun e => q5 ⟨h0, e⟩⟩
      · exact .inl (beq_eq_false_iff_ne.2 h0)
    clear q5 hA
    rcases qq with ql | ⟨rfl, qr⟩
    · cases kb
      · go_enter Tryd.func122, Tryd.ntmps122
        go_wp2_with (first
          | ((with_reducible refine wpList_load_rng rfl 23 (.tmp 50) rfl w.heap.size 1 rfl dk _ ?_ hu rfl hi.out ?_); exact hk.out)
          | ((with_reducible refine wpList_built rfl 23 _ rfl dz.toArray [] ?_ ?_ ?_); exact hz.out; rfl))
        go_ret
        exact ⟨ret_b yes.out, W0⟩
      · go_enter Tryd.func122, Tryd.ntmps122
        go_wp2_with (first
          | ((with_reducible refine wpList_load_rng rfl 23 (.tmp 50) rfl w.heap.size 1 rfl dk _ ?_ hu rfl hi.out ?_); exact hk.out)
          | ((with_reducible refine wpList_built rfl 23 _ rfl dz.toArray [] ?_ ?_ ?_); exact hz.out; rfl))
        go_ret
        exact ⟨ret_b yes.out, W0⟩
    · cases kb
      · go_enter Tryd.func122, Tryd.ntmps122
        go_wp2_with (first
          | ((with_reducible refine wpList_load_rng rfl 23 (.tmp 50) rfl w.heap.size 1 rfl dk _ ?_ hu rfl hi.out ?_); exact hk.out)
          | ((with_reducible refine wpList_built rfl 23 _ rfl dz.toArray [] ?_ ?_ ?_); exact hz.out; rfl))
        go_ret
        exact ⟨ret_b yes.out, W0⟩
      · go_enter Tryd.func122, Tryd.ntmps122
        go_wp2_with (first
          | ((with_reducible refine wpList_load_rng rfl 23 (.tmp 50) rfl w.heap.size 1 rfl dk _ ?_ hu rfl hi.out ?_); exact hk.out)
          | ((with_reducible refine wpList_built rfl 23 _ rfl dz.toArray [] ?_ ?_ ?_); exact hz.out; rfl))
        go_ret
        exact ⟨ret_b yes.out, W0⟩
  · have hA2 : (vb && decide (l = 0) && decide (r = 0)) = ans := by rw [← hA.out, if_pos rfl]
    replace hA2 := hid hA2
    clear hA
    cases vb
    · go_enter Tryd.func122, Tryd.ntmps122
      go_wp2_with fail
      refine (RValue_is v A c false _ h1 hvb.out).mono ?_
      rintro e w7 ⟨rfl, rfl⟩
      go_wp2
      go_ret
      exact ⟨ret_b hA2.out, W0⟩
    · by_cases hl0 : l = 0
      · subst hl0
        go_enter Tryd.func122, Tryd.ntmps122
        go_wp2_with fail
        refine (RValue_is v A c true _ h1 hvb.out).mono ?_
        rintro e w7 ⟨rfl, rfl⟩
        go_wp2
        go_ret
        exact ⟨ret_b (by rw [← hA2.out]; simp; rfl), W0⟩
      · have ql : (l == 0) = false := beq_eq_false_iff_ne.2 hl0
        go_enter Tryd.func122, Tryd.ntmps122
        go_wp2_with fail
        refine (RValue_is v A c true _ h1 hvb.out).mono ?_
        rintro e w7 ⟨rfl, rfl⟩
        go_wp2
        go_ret
        exact ⟨ret_b (by rw [← hA2.out]; simp [hl0]), W0⟩
end Go.Proofs.YtnoglodggchgpaaDoor
