/-
  Whatever the digest and the text, the Go function ShaBack returns true and its arguments read as before: a digest's text is read as it, and a text that is read is its digest's text; all else is refused.
  Conditions: none. The frame around the walk was written by program (proof-skeleton.mjs).
-/
import Derived.Test.YtbindnoncghjjaaDoorRows
import Derived.Test.YtbindnoncghjjaaDoorDoor
import Derived.WalkKit
import Derived.ProofKit
import Derived.OpenShut
import Derived.ShutString
import Derived.ChangeOld
import Derived.Below
import Derived.Test.YtbindnoncghjjaaDoorAlive02
import Derived.Test.YtbindnoncghjjaaDoorEqD
import Derived.Test.YtbindnoncghjjaaDoorDigArg
namespace Go.Proofs.YtbindnoncghjjaaDoor.shaBack
open Go.ChangeShapes Go.WideShapes Go.ChangeAt Go.RowKit
open Go.ChangeMaps (open_string shut_string)
set_option linter.unusedVariables false

theorem own : ownKnob Tryd.prog.godebug = none := by kernel_rfl
theorem laidOut : laidOutB Tryd.prog = true := by kernel_rfl

/-- WHAT THE WALK IS TOLD OF A SLICE OF INTEGERS THAT CAME IN: it is nil; or it leads to a row of 'cap' cells, the numbers 'zs' (the first 'len' are its elements, the rest its spare room), each fitting its kind. -/
def IsRow (k : IntKind) (w : World) (a : Option Addr) (len cap : Nat) (zs : List Int) : Prop :=
  (a = none ∧ len = 0 ∧ cap = 0 ∧ zs = []) ∨
  ∃ x, a = some x ∧ len ≤ cap ∧ cap ≤ maxLen ∧ zs.length = cap ∧ (∀ i, i < zs.length → w.cell? (x.add i) = some (.int k (zs.getD i 0))) ∧ ∀ n ∈ zs, (Lit.int k n).wf = true

/-! ### the walk -/
open Go.Proofs.YtbindnoncghjjaaDoor
/-! #### pure: a digest's text tells it -/
theorem digitI_hexd (i : Nat) (h : i < 16) : digitI (hexd.getD i 0) = i := digitI_hit _ i h rfl
theorem hexL_get (d : List UInt8) : ∀ i : Nat, i < d.length → (hexL d).getD (2 * i) 0 = hexd.getD ((d.getD i 0).toNat / 16) 0 ∧ (hexL d).getD (2 * i + 1) 0 = hexd.getD ((d.getD i 0).toNat % 16) 0 := by
  induction d with
  | nil => intro i h; simp at h
  | cons b d ih =>
    intro i h
    have e : hexL (b :: d) = hexd.getD (b.toNat / 16) 0 :: hexd.getD (b.toNat % 16) 0 :: hexL d := rfl
    rw [e]
    rcases i with _ | i
    · exact ⟨rfl, rfl⟩
    · have h2 := ih i (by simpa using h)
      rw [show 2 * (i + 1) = 2 * i + 1 + 1 by omega]
      exact h2
theorem cAt_bstr (l : List UInt8) (k : Nat) : cAt (bstr l) k = l.getD k 0 := by
  unfold cAt bstr
  simp
theorem back_digits (d : List UInt8) (h : d.length = 32) (i : Nat) (hi : i < 32) :
    digitI (cAt (bstr (hexL d)) (2 * i)) = ((d.getD i 0).toNat / 16 : Nat) ∧ digitI (cAt (bstr (hexL d)) (2 * i + 1)) = ((d.getD i 0).toNat % 16 : Nat) := by
  obtain ⟨h1, h2⟩ := hexL_get d i (by omega)
  have h3 := (d.getD i 0).toNat_lt
  rw [cAt_bstr, cAt_bstr, h1, h2, digitI_hexd _ (by omega), digitI_hexd _ (by omega)]
  exact ⟨rfl, rfl⟩
theorem back_ok (d : List UInt8) (h : d.length = 32) : readOk (bstr (hexL d)) = true := by
  refine readOk_yes ?_ fun k hk => ?_
  · show (hexL d).toArray.size = 64
    simp [hexL_len, h]
  · obtain ⟨h1, h2⟩ := back_digits d h k hk
    unfold okAt
    rw [h1, h2]
    simp
    constructor <;> omega
theorem back_bytes (d : List UInt8) (h : d.length = 32) : readB (bstr (hexL d)) = d := by
  apply List.ext_getElem?
  intro i
  by_cases hi : i < 32
  · rw [readB_get _ i hi]
    obtain ⟨h1, h2⟩ := back_digits d h i hi
    unfold byteAt
    rw [h1, h2, List.getElem?_eq_getElem (by omega)]
    congr 1
    have h3 : d.getD i 0 = d[i]'(by omega) := by rw [List.getD_eq_getElem?_getD, List.getElem?_eq_getElem (by omega)]; rfl
    rw [h3]
    apply UInt8.toNat_inj.1
    have h4 := (d[i]'(by omega)).toNat_lt
    simp
    omega
  · rw [List.getElem?_eq_none (by rw [readB_len]; omega), List.getElem?_eq_none (by omega)]
/-! #### pure: a text that is read is its digest's -/
theorem hexd_digitI (c : UInt8) (h : 0 ≤ digitI c) : hexd.getD (digitI c).toNat 0 = c := by
  exact all256 (p := fun c => 0 ≤ digitI c → hexd.getD (digitI c).toNat 0 = c) (by decide +kernel) c h
theorem forth (s : ByteArray) (h : readOk s = true) : hexL (readB s) = s.data.toList := by
  unfold readOk at h
  rw [Bool.and_eq_true, decide_eq_true_iff, List.all_eq_true] at h
  obtain ⟨h64, hall⟩ := h
  have hl : s.data.toList.length = 64 := h64
  apply List.ext_getElem?
  intro j
  by_cases hj : j < 64
  · have hk : j / 2 < 32 := by omega
    obtain ⟨h1, h2⟩ := hexL_get (readB s) (j / 2) (by rw [readB_len]; exact hk)
    have hb : (readB s).getD (j / 2) 0 = byteAt s (j / 2) := by
      rw [List.getD_eq_getElem?_getD, readB_get s _ hk]; rfl
    have hok := hall (j / 2) (by simpa using hk)
    unfold okAt at hok
    rw [Bool.and_eq_true, decide_eq_true_iff, decide_eq_true_iff] at hok
    obtain ⟨k1, k2⟩ := hok
    have l1 := digitI_lt (cAt s (2 * (j / 2)))
    have l2 := digitI_lt (cAt s (2 * (j / 2) + 1))
    have hn : (byteAt s (j / 2)).toNat = 16 * (digitI (cAt s (2 * (j / 2)))).toNat + (digitI (cAt s (2 * (j / 2) + 1))).toNat := by
      unfold byteAt
      simp
      omega
    rw [hb, hn] at h1 h2
    rw [show (16 * (digitI (cAt s (2 * (j / 2)))).toNat + (digitI (cAt s (2 * (j / 2) + 1))).toNat) / 16 = (digitI (cAt s (2 * (j / 2)))).toNat by omega, hexd_digitI _ k1] at h1
    rw [show (16 * (digitI (cAt s (2 * (j / 2)))).toNat + (digitI (cAt s (2 * (j / 2) + 1))).toNat) % 16 = (digitI (cAt s (2 * (j / 2) + 1))).toNat by omega, hexd_digitI _ k2] at h2
    have e : (hexL (readB s)).getD j 0 = cAt s j := by
      rcases (show j = 2 * (j / 2) ∨ j = 2 * (j / 2) + 1 by omega) with e | e
      · rw [← e] at h1; exact h1
      · rw [← e] at h2; exact h2
    have hlen : (hexL (readB s)).length = 64 := by rw [hexL_len, readB_len]
    rw [List.getElem?_eq_getElem (by omega), List.getElem?_eq_getElem (by omega)]
    congr 1
    unfold cAt at e
    rw [List.getD_eq_getElem?_getD, List.getD_eq_getElem?_getD, List.getElem?_eq_getElem (by omega), List.getElem?_eq_getElem (by omega)] at e
    exact e
  · rw [List.getElem?_eq_none (by rw [hexL_len, readB_len]; omega), List.getElem?_eq_none (by omega)]
theorem forth_str (s : ByteArray) (h : readOk s = true) : ((bstr (hexL (readB s))).toList == s.toList) = true := by
  rw [bstr_toList, forth s h, Go.ByteArray.toList_eq]
  simp
set_option maxRecDepth 100000 in
set_option maxHeartbeats 1000000 in
theorem walk (l0 : List UInt8) (a1 : ByteArray) (w : World) (w0 : l0.length = 32) (w1 : a1.size ≤ maxLen) (hT : Tab w) :
    Calls Tryd.prog 6 #[.agg (l0.map bv).toArray, .string a1] w fun e w' => e = .returned (.bool true) ∧ Below w.heap.size w w' := by
  have hw0 := hT.low
  replace hT := hid hT
  have zd := zeroDig
  have zz := fun w => eq_dig (List.replicate 32 0) (by simp) w
  replace zz : ∀ w : World, (Op.equalIn 10000 23 (.agg z32) (.agg z32)).run Tryd.prog w = .ok true w := zz
  have z0 : ((l0.map bv).toArray).size = 32 := by simp [w0]
  have o0 := bvs_all l0
  have Q0 := back_ok l0 w0
  have A0 : readA (bstr (hexL l0)) = (l0.map bv).toArray := by unfold readA; rw [if_pos Q0, back_bytes l0 w0]
  have E0 : readE (bstr (hexL l0)) = 0 := by unfold readE; rw [if_pos Q0]
  have S0 : (bstr (hexL l0)).size ≤ 1000000 := by show (hexL l0).toArray.size ≤ _; simp [hexL_len, w0]
  have q0 := fun w => eq_dig l0 w0 w
  by_cases h2 : 200 < a1.size
  · clear zd zz q0
    go_enter Tryd.func6, Tryd.ntmps6
    go_wp2_with fail
    refine (alive2_any _ (hT.out.bel (g := w.heap.size) (ext_alloc w _) hw0)).mono ?_
    rintro e w2 ⟨rfl, B2⟩
    go_wp2_with fail
    go_ret
    exact ⟨rfl, ext_trans (ext_alloc w _) B2⟩
  have h3 : a1.size ≤ 200 := by omega
  clear h2
  by_cases hok : readOk a1 = true
  · have A1 : readA a1 = ((readB a1).map bv).toArray := by unfold readA; rw [if_pos hok]
    have E1 : readE a1 = 0 := by unfold readE; rw [if_pos hok]
    have qs := forth_str a1 hok
    have ly := readB_len a1
    obtain ⟨y, hy⟩ : ∃ y, y = readB a1 := ⟨_, rfl⟩
    rw [← hy] at A1 qs ly
    have zy : ((y.map bv).toArray).size = 32 := by simp [ly]
    have oy := bvs_all y
    clear hy hok zz zd
    go_enter Tryd.func6, Tryd.ntmps6
    go_wp2_with fail
    refine (alive2_any _ (hT.out.bel (g := w.heap.size) (ext_alloc w _) hw0)).mono ?_
    rintro e w2 ⟨rfl, B2⟩
    have hd := hid ((B2.block w.heap.size (by simp)).trans (heap_alloc_new w (.cells (l0.map bv).toArray 23)))
    have W2 := ext_trans (ext_alloc w _) B2
    clear B2
    go_wp2_with (((with_reducible refine wpList_load_rowg rfl 23 (.tmp 2) rfl w.heap.size rfl 23 ((l0.map bv).toArray) (0, 0) _ ?_ Tryd.underlying23 rfl ?_ ?_); exact hd.out; (rw [z0]; exact size32)))
    refine (sHex_any l0 _ w0).mono ?_
    rintro e w3 ⟨rfl, B3⟩
    replace hd := hid ((B3.block _ (block_lt hd.out)).trans hd.out)
    replace W2 := ext_trans W2 B3
    clear B3
    go_wp2_with fail
    refine (sRead_any (bstr (hexL l0)) _ S0).mono ?_
    rintro e w4 ⟨rfl, B4⟩
    rw [A0, E0]
    replace hd := hid ((B4.block _ (block_lt hd.out)).trans hd.out)
    replace W2 := ext_trans W2 B4
    clear B4
    go_wp2_with (first
      | (with_reducible refine wpList_alloc_row rfl 23 rfl z32 info32 ?_)
      | ((with_reducible refine wpList_store_row rfl 23 (.tmp 6) (.tmp 23) rfl _ _ rfl rfl 23 z32 ?_ ?_ ?_ ?_ ?_); exact heap_alloc_new _ _; (rw [z0]; exact size32); (rw [z0]; exact z32_size); exact o0; intro w5 hg5 hb5 hs5))
    have B5 : Below w4.heap.size w4 w5 := (ext_alloc w4 _).grown hb5 (by simp) (fun k hk => by injection hk with hk; omega)
    replace hd := hid ((B5.block _ (block_lt hd.out)).trans hd.out)
    replace W2 := ext_trans W2 B5
    have h6 := hid hg5
    clear B5 hb5 hs5 hg5
    generalize w4.heap.size = b2 at *
    refine (sRead_any a1 _ (by omega)).mono ?_
    rintro e w6 ⟨rfl, B6⟩
    rw [A1, E1]
    replace hd := hid ((B6.block _ (block_lt hd.out)).trans hd.out)
    replace h6 := hid ((B6.block _ (block_lt h6.out)).trans h6.out)
    replace W2 := ext_trans W2 B6
    clear B6
    go_wp2_with (first
      | (with_reducible refine wpList_alloc_row rfl 23 rfl z32 info32 ?_)
      | ((with_reducible refine wpList_store_row rfl 23 (.tmp 8) (.tmp 28) rfl _ _ rfl rfl 23 z32 ?_ ?_ ?_ ?_ ?_); exact heap_alloc_new _ _; (rw [zy]; exact size32); (first | rfl | (rw [zy]; exact z32_size)); exact oy; intro w7 hg7 hb7 hs7; have B7 : Below w6.heap.size w6 w7 := (ext_alloc w6 _).grown hb7 (by simp) (fun k hk => by injection hk with hk; omega); replace hd := hid ((B7.block _ (block_lt hd.out)).trans hd.out); replace h6 := hid ((B7.block _ (block_lt h6.out)).trans h6.out); replace W2 := ext_trans W2 B7; have h8 := hid hg7; clear B7 hb7 hs7 hg7)
      | ((with_reducible refine wpList_load_rowg rfl 23 (.tmp 6) rfl b2 rfl 23 ((l0.map bv).toArray) (0, 0) _ ?_ Tryd.underlying23 rfl ?_ ?_); exact h6.out; (rw [z0]; exact size32))
      | ((with_reducible refine wpList_load_rowg rfl 23 (.tmp 2) rfl w.heap.size rfl 23 ((l0.map bv).toArray) (0, 0) _ ?_ Tryd.underlying23 rfl ?_ ?_); exact hd.out; (rw [z0]; exact size32))
      | ((with_reducible refine wpList_load_rowg rfl 23 (.tmp 8) rfl w6.heap.size rfl 23 ((y.map bv).toArray) (0, 0) _ ?_ Tryd.underlying23 rfl ?_ ?_); exact h8.out; (rw [zy]; exact size32)))
    refine (sHex_any y _ ly).mono ?_
    rintro e w9 ⟨rfl, B9⟩
    replace W2 := ext_trans W2 B9
    clear B9
    go_wp2_with fail
    go_ret
    exact ⟨rfl, W2⟩
  · have nok : readOk a1 = false := by cases h : readOk a1 <;> simp_all
    have A1 : readA a1 = z32 := by unfold readA; rw [if_neg (by rw [nok]; decide)]
    have E1 : readE a1 = 2 := by unfold readE; rw [if_neg (by rw [nok]; decide)]
    have zy := z32_size
    have oy : z32.all (·.oneCell') = true := by decide +kernel
    clear hok
    go_enter Tryd.func6, Tryd.ntmps6
    go_wp2_with fail
    refine (alive2_any _ (hT.out.bel (g := w.heap.size) (ext_alloc w _) hw0)).mono ?_
    rintro e w2 ⟨rfl, B2⟩
    have hd := hid ((B2.block w.heap.size (by simp)).trans (heap_alloc_new w (.cells (l0.map bv).toArray 23)))
    have W2 := ext_trans (ext_alloc w _) B2
    clear B2
    go_wp2_with (((with_reducible refine wpList_load_rowg rfl 23 (.tmp 2) rfl w.heap.size rfl 23 ((l0.map bv).toArray) (0, 0) _ ?_ Tryd.underlying23 rfl ?_ ?_); exact hd.out; (rw [z0]; exact size32)))
    refine (sHex_any l0 _ w0).mono ?_
    rintro e w3 ⟨rfl, B3⟩
    replace hd := hid ((B3.block _ (block_lt hd.out)).trans hd.out)
    replace W2 := ext_trans W2 B3
    clear B3
    go_wp2_with fail
    refine (sRead_any (bstr (hexL l0)) _ S0).mono ?_
    rintro e w4 ⟨rfl, B4⟩
    rw [A0, E0]
    replace hd := hid ((B4.block _ (block_lt hd.out)).trans hd.out)
    replace W2 := ext_trans W2 B4
    clear B4
    go_wp2_with (first
      | (with_reducible refine wpList_alloc_row rfl 23 rfl z32 info32 ?_)
      | ((with_reducible refine wpList_store_row rfl 23 (.tmp 6) (.tmp 23) rfl _ _ rfl rfl 23 z32 ?_ ?_ ?_ ?_ ?_); exact heap_alloc_new _ _; (rw [z0]; exact size32); (rw [z0]; exact z32_size); exact o0; intro w5 hg5 hb5 hs5))
    have B5 : Below w4.heap.size w4 w5 := (ext_alloc w4 _).grown hb5 (by simp) (fun k hk => by injection hk with hk; omega)
    replace hd := hid ((B5.block _ (block_lt hd.out)).trans hd.out)
    replace W2 := ext_trans W2 B5
    have h6 := hid hg5
    clear B5 hb5 hs5 hg5
    generalize w4.heap.size = b2 at *
    refine (sRead_any a1 _ (by omega)).mono ?_
    rintro e w6 ⟨rfl, B6⟩
    rw [A1, E1]
    replace hd := hid ((B6.block _ (block_lt hd.out)).trans hd.out)
    replace h6 := hid ((B6.block _ (block_lt h6.out)).trans h6.out)
    replace W2 := ext_trans W2 B6
    clear B6
    go_wp2_with (first
      | (with_reducible refine wpList_alloc_row rfl 23 rfl z32 info32 ?_)
      | ((with_reducible refine wpList_store_row rfl 23 (.tmp 8) (.tmp 28) rfl _ _ rfl rfl 23 z32 ?_ ?_ ?_ ?_ ?_); exact heap_alloc_new _ _; (rw [zy]; exact size32); (first | rfl | (rw [zy]; exact z32_size)); exact oy; intro w7 hg7 hb7 hs7; have B7 : Below w6.heap.size w6 w7 := (ext_alloc w6 _).grown hb7 (by simp) (fun k hk => by injection hk with hk; omega); replace hd := hid ((B7.block _ (block_lt hd.out)).trans hd.out); replace h6 := hid ((B7.block _ (block_lt h6.out)).trans h6.out); replace W2 := ext_trans W2 B7; have h8 := hid hg7; clear B7 hb7 hs7 hg7)
      | ((with_reducible refine wpList_load_rowg rfl 23 (.tmp 6) rfl b2 rfl 23 ((l0.map bv).toArray) (0, 0) _ ?_ Tryd.underlying23 rfl ?_ ?_); exact h6.out; (rw [z0]; exact size32))
      | ((with_reducible refine wpList_load_rowg rfl 23 (.tmp 2) rfl w.heap.size rfl 23 ((l0.map bv).toArray) (0, 0) _ ?_ Tryd.underlying23 rfl ?_ ?_); exact hd.out; (rw [z0]; exact size32))
      | ((with_reducible refine wpList_load_rowg rfl 23 (.tmp 8) rfl w6.heap.size rfl 23 z32 (0, 0) _ ?_ Tryd.underlying23 rfl ?_ ?_); exact h8.out; (rw [zy]; exact size32)))
    go_ret
    exact ⟨rfl, W2⟩

/-! ### WHAT THE WALK GIVES, FOR EVERY ARGUMENT AND EVERY WORLD THAT HOLDS THE TABLE -/
set_option maxRecDepth 100000 in
theorem contract (H : Type) (enc : TypeId × Value → H) (W : World) (base : Nat) (args : Array Value) (ds gs : List (DataW H)) (before : List MemPlace)
    (hval0 : ∀ (j : Nat) t v, Tryd.f6.params[j]? = some t → args[j]? = some v → Value.okWide Tryd.prog W .any base t v)
    (hW : DataW.Whole enc Tryd.prog Tryd.f6.params.toList Rows.shaBackSpec.vars false W args.toList ds gs before) (hL : laidMetH Tryd.prog Rows.shaBackRow.laid W) :
    Calls Tryd.prog 6 args W fun e W' => ∃ v, e = .returned v ∧ Rows.shaBackSpec.post enc Tryd.prog Tryd.f6 false true false false W args v W' := by
  have hval : ∀ (j : Nat) t v, Tryd.f6.params[j]? = some t → args[j]? = some v → Value.okWide Tryd.prog W .any base t v := hval0
  have hW' := hW
  obtain ⟨p, q, hA0, hV, rfl, hfz, hnd⟩ := hW
  have hA : DataW.TrodAll enc Tryd.prog W 0 (fun _ => true) true Tryd.f6.params.toList args.toList ds p := hA0
  rw [Tryd.params6] at hA hval
  obtain ⟨v0, vs0, d0, ds0, p0, q0, hargs, rfl, rfl, h0, r0⟩ := trodAll_cons hA
  obtain ⟨v1, vs1, d1, ds1, p1, q1, rfl, rfl, rfl, h1, r1⟩ := trodAll_cons r0
  obtain ⟨rfl, rfl, rfl⟩ := trodAll_nil r1
  obtain rfl : args = #[v0, v1] := by cases args; simp_all
  obtain ⟨rfl, rfl⟩ := trodVars_none hV
  have k0 := h0
  have lt0 : ∀ x ∈ p0, x.block < W.heap.size := by obtain ⟨m, hm⟩ := k0; exact DataW.trod_lt m _ _ _ hm
  obtain ⟨l0, w0, rfl⟩ := open_dig Tryd.underlying23 Tryd.underlying5 cellsByte cellsDig (hval 0 23 v0 rfl rfl) h0
  obtain ⟨a1, rfl, rfl, rfl, w1⟩ := open_string Tryd.underlying9 (hval 1 9 v1 rfl rfl) h1
  clear hA0 hval0
  refine (walk l0 a1 W w0 w1 (tab_of hL)).mono fun e W' ⟨he, bel⟩ => ?_
  subst he
  exact ⟨_, rfl, _, _, _, [], _, [], hW', trodAll_mk1 (shut_bool Tryd.underlying4 _), (trodAll_cons_mk (Below.trod laidOut (by kernel_rfl) (of_decide_eq_true (by kernel_rfl)) k0 bel lt0) (trodAll_cons_mk (shut_string Tryd.underlying9 w1) trodAll_mk0)), rfl, bel.frame _, fun h => by cases h⟩

theorem laid_met (os : Os) : laidMet Tryd.prog Rows.shaBackRow.laid ((laidWorld os).forCall (fun _ _ => 0) ⟨#[], #[.agg z32, .string ByteArray.empty], []⟩).memory :=
  laidMet_of_run' 8 (by kernel_rfl) (by kernel_rfl)
theorem reads (os : Os) {H : Type} (enc : TypeId × Value → H) : ∃ places, DataW.whole enc Tryd.prog ((laidWorld os).forCall (fun _ _ => 0) ⟨#[], #[.agg z32, .string ByteArray.empty], []⟩).memory Tryd.f6.params.toList Rows.shaBackSpec.vars false (#[.agg z32, .string ByteArray.empty] : Array Value).toList 8 = some ([.agg [.lit (.int .u8 0), .lit (.int .u8 0), .lit (.int .u8 0), .lit (.int .u8 0), .lit (.int .u8 0), .lit (.int .u8 0), .lit (.int .u8 0), .lit (.int .u8 0), .lit (.int .u8 0), .lit (.int .u8 0), .lit (.int .u8 0), .lit (.int .u8 0), .lit (.int .u8 0), .lit (.int .u8 0), .lit (.int .u8 0), .lit (.int .u8 0), .lit (.int .u8 0), .lit (.int .u8 0), .lit (.int .u8 0), .lit (.int .u8 0), .lit (.int .u8 0), .lit (.int .u8 0), .lit (.int .u8 0), .lit (.int .u8 0), .lit (.int .u8 0), .lit (.int .u8 0), .lit (.int .u8 0), .lit (.int .u8 0), .lit (.int .u8 0), .lit (.int .u8 0), .lit (.int .u8 0), .lit (.int .u8 0)], .lit (.string [])], [], places) :=
  ⟨[], by kernel_rfl⟩
set_option maxRecDepth 100000 in
theorem lifted (os : Os) (started : os.Started) (H : Type) (enc : TypeId × Value → H) (F : Stop.Interp) :
    ReturnsInHanded {} Tryd.checked os 6 .any ((OpenSpec.ofChange Rows.shaBackSpec).preRow enc Tryd.prog Tryd.f6 Rows.shaBackRow.domain false Rows.shaBackRow.laid) (((OpenSpec.ofChange Rows.shaBackSpec).at F).post enc Tryd.prog Tryd.f6 false true false false) := by
  obtain ⟨places, hx⟩ := reads os enc
  refine returnsInHanded_of_row (C := Tryd.checked) (s := OpenSpec.ofChange Rows.shaBackSpec) own started (by kernel_rfl) Tryd.func6
    (witness_row_at (enc := enc) (C := Tryd.checked) false (laidWorld os) #[.agg z32, .string ByteArray.empty] rfl (by kernel_rfl) (by kernel_rfl) (by kernel_rfl)
      (OpenSpec.preRow_of_cond 8 hx (by kernel_rfl) (fun k hk => by cases hk) (by kernel_rfl) (laid_met os))) ?_
  intro W base args ds gs before hval hW _ _ _ hL _ _
  exact contract H enc W base args ds gs before hval hW hL
theorem said : Rows.ShaBackSaid :=
  OpenClaim.holds_of_cond 6 Tryd.f6 rfl rfl rfl rfl rfl rfl rfl ⟨rfl, rfl, rfl, rfl, rfl⟩ rfl rfl rfl rfl rfl (by kernel_rfl) Tryd.func6 (by kernel_rfl)
    (of_decide_eq_true (by kernel_rfl)) (by unfold Func.isWrapper; first | (rw [if_pos (by decide +kernel)]; kernel_rfl) | (rw [if_neg (by decide +kernel)]; exact ⟨rfl, rfl⟩))
    (fun os started H enc _ F => by rw [OpenClaim.pre_eq_preRow]; exact lifted os started H enc F)
/-- No parameter wants a stand-in; the program's own looks are off: what the card asks. -/
theorem plain (f : FuncId) (fn : Func) (hf : Tryd.pinned.checked.prog.funcNamed "beadroll/beadrolllaw02.ShaBack" = some f) (hfn : Tryd.pinned.checked.prog.funcs[f]? = some fn) :
    false = Tryd.pinned.checked.prog.looks [] ∧ ∀ (j : Nat) t, fn.params[j]? = some t → Tryd.pinned.checked.prog.wantsStandIn t = false := by
  obtain rfl : f = 6 := Option.some.inj ((show Tryd.prog.funcNamed "beadroll/beadrolllaw02.ShaBack" = some 6 by kernel_rfl).symm.trans hf) |>.symm
  obtain rfl : fn = Tryd.f6 := (Option.some.inj (Tryd.func6.symm.trans hfn)).symm
  refine ⟨by kernel_rfl, fun j t ht => ?_⟩
  rw [Tryd.params6] at ht
  have hm := Array.mem_of_getElem? ht
  simp only [List.mem_toArray, List.mem_cons, List.not_mem_nil, or_false] at hm
  rcases hm with rfl | rfl
  all_goals first | exact (show Tryd.prog.wantsStandIn 23 = false by kernel_rfl) | exact (show Tryd.prog.wantsStandIn 9 = false by kernel_rfl)
/-- ████ THE CARD ████ -/
theorem proved : Rows.ShaBackCardSaid :=
  Claim7.holds_tied_plain_at .later [] _ _ _ _ said (fun _ h => by cases h) (by kernel_rfl) (fun _ h => by cases h) shaBack_row_tie rfl ⟨rfl, rfl⟩ (by kernel_rfl) rfl plain (by kernel_rfl)
#print axioms proved
end Go.Proofs.YtbindnoncghjjaaDoor.shaBack
