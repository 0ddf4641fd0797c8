/-
  Whatever the kind and the parts, the Go function TagTells returns true and its arguments read as before: what is digested of a kind and parts, its digest, and that of nothing, are the document's; the parts stay.
  Conditions: none. The frame around the walk was written by program (proof-skeleton.mjs).
-/
import Derived.Test.YtliahdlllmnkkaaDoorRows
import Derived.Test.YtliahdlllmnkkaaDoorDoor
import Derived.WalkKit
import Derived.ProofKit
import Derived.OpenShut
import Derived.ShutString
import Derived.ChangeOld
import Derived.Below
import Derived.Test.YtliahdlllmnkkaaDoorTag
import Derived.Test.YtliahdlllmnkkaaDoorRef03c
import Derived.Test.YtliahdlllmnkkaaDoorSpoil03c
import Derived.Test.YtliahdlllmnkkaaDoorTagD
import Derived.Test.YtliahdlllmnkkaaDoorRef03a
import Derived.Test.YtliahdlllmnkkaaDoorOwnL
import Derived.Test.YtliahdlllmnkkaaDoorTagP
import Derived.Test.YtliahdlllmnkkaaDoorEqD
import Derived.Test.YtliahdlllmnkkaaDoorLists
import Derived.Test.YtliahdlllmnkkaaDoorTwin
namespace Go.Proofs.YtliahdlllmnkkaaDoor.tagTells
open Go.ChangeShapes Go.WideShapes Go.ChangeAt Go.RowKit
open Go.ChangeMaps (open_string shut_string)
set_option linter.unusedVariables false

theorem own : ownKnob Tryd.prog.godebug = none := by kernel_rfl
theorem laidOut : laidOutB Tryd.prog = true := by kernel_rfl

/-- WHAT THE WALK IS TOLD OF A SLICE OF INTEGERS THAT CAME IN: it is nil; or it leads to a row of 'cap' cells, the numbers 'zs' (the first 'len' are its elements, the rest its spare room), each fitting its kind. -/
def IsRow (k : IntKind) (w : World) (a : Option Addr) (len cap : Nat) (zs : List Int) : Prop :=
  (a = none ∧ len = 0 ∧ cap = 0 ∧ zs = []) ∨
  ∃ x, a = some x ∧ len ≤ cap ∧ cap ≤ maxLen ∧ zs.length = cap ∧ (∀ i, i < zs.length → w.cell? (x.add i) = some (.int k (zs.getD i 0))) ∧ ∀ n ∈ zs, (Lit.int k n).wf = true

/-! ### the walk -/
open Go.Proofs.YtliahdlllmnkkaaDoor
theorem u8_wf {a : Int} (h : (Lit.int .u8 a).wf = true) : ∃ k : UInt8, a = (k.toNat : Int) := by
  simp [Lit.wf, IntKind.min, IntKind.max, IntKind.signed, IntKind.bits] at h
  refine ⟨UInt8.ofNat a.toNat, ?_⟩
  rw [UInt8.toNat_ofNat']
  omega
theorem infoSl' : (Tryd.prog.info? 26).map (fun i => (i.zero, i.size, i.bytes)) = some (some (.slice none 0 0), 1, 24) := by kernel_rfl
theorem underSls' : Tryd.prog.underlying 22 = some (.slice 26) := Tryd.underlying22
set_option maxRecDepth 100000 in
set_option maxHeartbeats 1000000 in
theorem walk (a0 : Int) (a1 : Option Addr) (len1 cap1 : Nat) (ls1 : List (List UInt8)) (w : World) (w0 : (Lit.int .u8 a0).wf = true) (w1 : len1 = ls1.length ∧ Rds w a1 ls1 ∧ ls1.length ≤ cap1 ∧ cap1 ≤ maxLen) (hT : Tab w) :
    Calls Tryd.prog 4 #[.int .u8 a0, .slice a1 len1 cap1] w fun e w' => e = .returned (.bool true) ∧ Below w.heap.size w w' := by
  obtain ⟨rfl, r1, m1, x1⟩ := w1
  unfold maxLen at x1
  obtain ⟨ka, rfl⟩ := u8_wf w0
  have g1 : great ls1 = true ∨ great ls1 = false := by cases great ls1 <;> simp
  have hw0 := hT.low
  replace hT := hid hT
  have R1 := hid r1
  clear r1 w0
  go_enter Tryd.func4, Tryd.ntmps4
  go_wp2_with fail
  refine (Great_any _ _ _ ls1 _ R1.out rfl (by omega)).mono ?_
  rintro e w5 ⟨rfl, rfl⟩
  rcases g1 with g1 | g1
  · rw [g1]
    go_wp2_with fail
    go_ret
    exact ⟨rfl, Below.refl _ _⟩
  rw [g1]
  obtain ⟨q1, q2⟩ := great_no g1
  have Q2 := hid q2
  clear q2
  go_wp2_with fail
  go_loopw [5, 6] (fun v q wr => ∃ (j : Nat) (A' : Option Addr) (c' : Nat), j ≤ ls1.length ∧ q = .int .i64 j ∧ v = .slice A' (ls1.take j).length c' ∧ OwnL 26 5 wr w.heap.size A' c' (ls1.take j) ∧ Below w.heap.size w wr) (fun _ q _ => ls1.length - (intOf q).toNat)
  case atStart => exact ⟨0, none, 0, by omega, rfl, rfl, OwnL.nil _ _, Below.refl _ _⟩
  case round =>
    obtain ⟨j, A', c', hj, rfl, rfl, ho, hb⟩ := hrel
    have Ho := hid ho
    have Hb := hid hb
    have lj : (ls1.take j).length = j := by rw [List.length_take]; omega
    by_cases hlt : j < ls1.length
    · as_aux_lemma =>
      obtain ⟨b1, o1, rfl, k1⟩ := (R1.out.bel hb) (by omega)
      obtain ⟨B1, d1, e1, s1, s2, s3⟩ := k1 j _ (List.getElem?_eq_getElem hlt)
      have hnx : Hid (ls1.take (j + 1) = ls1.take j ++ [ls1[j]]) := by show _ = _; rw [List.take_succ_eq_append_getElem hlt]
      have lx := Q2.out j _ (List.getElem?_eq_getElem hlt)
      generalize ls1[j] = x at *
      generalize ls1.take j = ps at *
      have j1 : (j : Int) < ls1.length := by omega
      have S1 := hid s1
      replace lj := hid lj
      clear ho hb k1 s1 s2 s3
      go_wp2_with fail
      refine (Twin_any _ _ _ x _ S1.out rfl (by omega)).mono ?_
      rintro e w3 ⟨A3, c3, rfl, ho3, hb3⟩
      have Ho3 := hid (ho3.base Hb.out.size)
      have Hx := hid (Ho.out.bel hb3)
      have B3 := hid (Hb.out.trans (hb3.mono Hb.out.size))
      have c3x := hid ho3.cap
      clear ho3 hb3
      go_wp2_with (first
        | (at_builtin; refine wpList_appL underSls' infoSl' (by decide) rfl (.tmp 17) (.tmp 23) rfl w.heap.size A' A3 _ c' c3 1 w3.heap.size ps x rfl rfl rfl (Hx.out.alloc _) (Ho3.out.alloc _) (by rw [cell_of_row _ w3.heap.size 0 _ _ (0, 0) (heap_alloc_new w3 _)]; rfl) (by have := lj.out; omega) (by have := B3.out.size; simp; omega) ?_; intro A4 c4 w4 ho4 hb4; have Ho4 := hid ho4; have B4 := hid (((B3.out.alloc B3.out.size _)).trans hb4); clear ho4 hb4))
      go_roundw
      case rel => exact ⟨j + 1, A4, c4, by omega, by go_num, by rw [hnx.out]; simp, by rw [hnx.out]; exact Ho4.out, B4.out⟩
      case measure => simp [intOf]; omega
    · obtain rfl : j = ls1.length := by omega
      rw [List.take_length] at *
      replace lj := trivial
      obtain ⟨t, ht⟩ : ∃ t, t = tagB ka ls1 := ⟨_, rfl⟩
      have lt : t.length ≤ 2433 := by
        have := tagB_le ka ls1 300 (fun l hl => by obtain ⟨j, hj⟩ := List.mem_iff_getElem?.1 hl; exact Q2.out j l hj)
        rw [ht]; omega
      replace ht := hid ht
      replace lt := hid lt
      replace Q2 := trivial
      have cp := ho.cap.2
      unfold maxLen at cp
      have P0 := hid ho.rds
      have PP := hid ho.rds
      have I0 := hid (R1.out.bel hb)
      have I1 := hid R1.out
      have W0 := Hb.out
      clear ho Ho R1 hb
      replace Hb := trivial
      go_wp2_with fail
      refine (TBytes_any ka _ _ _ ls1 _ P0.out rfl (by omega) (by have := lt.out; rw [← ht.out]; omega)).mono ?_
      rintro e w2 ⟨A2, c2, rfl, O2, B2⟩
      rw [← ht.out] at O2 ⊢
      have W2 := ext_trans W0 B2
      replace P0 := hid (P0.out.bel B2)
      replace I0 := hid (I0.out.bel B2)
      have O2' := hid O2
      have V := B2
      have zs := W0.size
      have Z0 := hid W0
      replace W0 := trivial
      clear O2 B2
      go_wp2_with fail
      refine (RBytes_any ka _ _ _ ls1 _ I0.out rfl (by omega) (by have := lt.out; rw [← ht.out]; omega)).mono ?_
      rintro e w3 ⟨A3, c3, rfl, O3, B3⟩
      rw [← ht.out] at O3 ⊢
      have W3 := ext_trans W2 B3
      replace P0 := hid (P0.out.bel B3)
      replace I0 := hid (I0.out.bel B3)
      replace O2' := hid (O2'.out.bel B3)
      replace V := ext_trans V B3
      have r3 := hid O3.rd
      replace W2 := trivial
      clear O3 B3
      go_wp2_with fail
      refine (Same_yes _ _ _ _ _ _ t t _ O2'.out.rd r3.out rfl rfl rfl).mono ?_
      rintro e w4 ⟨rfl, rfl⟩
      replace r3 := trivial
      go_wp2_with fail
      refine (TOf_any ka _ _ _ ls1 _ P0.out rfl (by omega) (by have := lt.out; rw [← ht.out]; omega) (hT.out.bel (g := w.heap.size) W3 hw0)).mono ?_
      rintro e w5 ⟨rfl, B5⟩
      rw [← ht.out]
      have W5 := ext_trans W3 B5
      replace P0 := hid (P0.out.bel B5)
      replace I0 := hid (I0.out.bel B5)
      replace O2' := hid (O2'.out.bel B5)
      replace V := ext_trans V B5
      replace W3 := trivial
      clear B5
      go_wp2_with fail
      refine (ROf_any ka _ _ _ ls1 _ I0.out rfl (by omega) (by have := lt.out; rw [← ht.out]; omega)).mono ?_
      rintro e w6 ⟨rfl, B6⟩
      rw [← ht.out]
      have W6 := ext_trans W5 B6
      replace P0 := hid (P0.out.bel B6)
      replace I0 := hid (I0.out.bel B6)
      replace O2' := hid (O2'.out.bel B6)
      replace V := ext_trans V B6
      replace W5 := trivial
      clear B6
      have l9 : (sha256 t).length = 32 := S8.bytes_len _
      have l8 : (sha256 [0]).length = 32 := S8.bytes_len _
      obtain ⟨d8, h8⟩ : ∃ d, d = sha256 [0] := ⟨_, rfl⟩
      rw [← h8] at l8
      generalize sha256 t = d9 at *
      have q9 := fun w => eq_dig d9 l9 w
      have q8 := fun w => eq_dig d8 l8 w
      replace h8 := hid h8
      go_wp2_with fail
      refine (TNone_any _ (hT.out.bel (g := w.heap.size) W6 hw0)).mono ?_
      rintro e w7 ⟨rfl, B7⟩
      rw [← h8.out]
      have W7 := ext_trans W6 B7
      replace P0 := hid (P0.out.bel B7)
      replace I0 := hid (I0.out.bel B7)
      replace O2' := hid (O2'.out.bel B7)
      replace V := ext_trans V B7
      replace W6 := trivial
      clear B7
      go_wp2_with fail
      refine (RNone_any _).mono ?_
      rintro e w8 ⟨rfl, B8⟩
      rw [← h8.out]
      have W8 := ext_trans W7 B8
      replace P0 := hid (P0.out.bel B8)
      replace I0 := hid (I0.out.bel B8)
      replace O2' := hid (O2'.out.bel B8)
      replace V := ext_trans V B8
      replace W7 := trivial
      clear B8
      go_wp2_with fail
      refine (spoil3_frs _ _ _ _ t _ O2'.out rfl).mono ?_
      rintro e w9 ⟨rfl, G9⟩
      have V9 := V.trans (O2'.out.only G9 V.size)
      replace PP := hid (PP.out.bel V9)
      have W9 := Z0.out.trans (V9.mono zs)
      replace I0 := hid (I1.out.bel W9)
      clear G9 O2' V P0
      go_wp2_with fail
      refine (SameL_any _ _ _ _ _ _ ls1 ls1 _ PP.out I0.out rfl rfl (by omega) (by omega)).mono ?_
      rintro e w10 ⟨rfl, B10⟩
      rw [decide_eq_true rfl]
      go_wp2_with fail
      go_ret
      exact ⟨rfl, ext_trans W9 B10⟩

/-! ### WHAT THE WALK GIVES, FOR EVERY ARGUMENT AND EVERY WORLD THAT HOLDS THE TABLE -/
set_option maxRecDepth 100000 in
theorem contract (H : Type) (enc : TypeId × Value → H) (W : World) (base : Nat) (args : Array Value) (ds gs : List (DataW H)) (before : List MemPlace)
    (hval0 : ∀ (j : Nat) t v, Tryd.f4.params[j]? = some t → args[j]? = some v → Value.okWide Tryd.prog W .any base t v)
    (hW : DataW.Whole enc Tryd.prog Tryd.f4.params.toList Rows.tagTellsSpec.vars false W args.toList ds gs before) (hL : laidMetH Tryd.prog Rows.tagTellsRow.laid W) :
    Calls Tryd.prog 4 args W fun e W' => ∃ v, e = .returned v ∧ Rows.tagTellsSpec.post enc Tryd.prog Tryd.f4 false true false false W args v W' := by
  have hval : ∀ (j : Nat) t v, Tryd.f4.params[j]? = some t → args[j]? = some v → Value.okWide Tryd.prog W .any base t v := hval0
  have hW' := hW
  obtain ⟨p, q, hA0, hV, rfl, hfz, hnd⟩ := hW
  have hA : DataW.TrodAll enc Tryd.prog W 0 (fun _ => true) true Tryd.f4.params.toList args.toList ds p := hA0
  rw [Tryd.params4] at hA hval
  obtain ⟨v0, vs0, d0, ds0, p0, q0, hargs, rfl, rfl, h0, r0⟩ := trodAll_cons hA
  obtain ⟨v1, vs1, d1, ds1, p1, q1, rfl, rfl, rfl, h1, r1⟩ := trodAll_cons r0
  obtain ⟨rfl, rfl, rfl⟩ := trodAll_nil r1
  obtain rfl : args = #[v0, v1] := by cases args; simp_all
  obtain ⟨rfl, rfl⟩ := trodVars_none hV
  obtain ⟨a0, rfl, rfl, rfl, w0⟩ := open_int Tryd.underlying5 (hval 0 5 v0 rfl rfl) h0
  obtain ⟨a1, len1, cap1, rfl⟩ := okWide_slice Tryd.underlying22 (hval 1 22 v1 rfl rfl)
  have k1 := h1
  have lt1 : ∀ x ∈ p1, x.block < W.heap.size := by obtain ⟨m, hm⟩ := k1; exact DataW.trod_lt m _ _ _ hm
  obtain ⟨ls1, w1⟩ : ∃ ls : List (List UInt8), len1 = ls.length ∧ Rds W a1 ls ∧ ls.length ≤ cap1 ∧ cap1 ≤ maxLen := by
    obtain ⟨fuel, hf⟩ := h1
    exact open_rows Tryd.underlying22 Tryd.underlying26 Tryd.underlying5 (by kernel_rfl) (by kernel_rfl) hf
  clear hA0 hval0
  refine (walk a0 a1 len1 cap1 ls1 W w0 w1 (tab_of hL)).mono fun e W' ⟨he, bel⟩ => ?_
  subst he
  exact ⟨_, rfl, _, _, _, [], _, [], hW', trodAll_mk1 (shut_bool Tryd.underlying4 _), (trodAll_cons_mk (shut_int Tryd.underlying5 w0) (trodAll_cons_mk (Below.trod laidOut (by kernel_rfl) (of_decide_eq_true (by kernel_rfl)) k1 bel lt1) trodAll_mk0)), rfl, bel.frame _, fun h => by cases h⟩

theorem laid_met (os : Os) : laidMet Tryd.prog Rows.tagTellsRow.laid ((laidWorld os).forCall (fun _ _ => 0) ⟨#[], #[.int .u8 0, .slice none 0 0], []⟩).memory :=
  laidMet_of_run' 8 (by kernel_rfl) (by kernel_rfl)
theorem reads (os : Os) {H : Type} (enc : TypeId × Value → H) : ∃ places, DataW.whole enc Tryd.prog ((laidWorld os).forCall (fun _ _ => 0) ⟨#[], #[.int .u8 0, .slice none 0 0], []⟩).memory Tryd.f4.params.toList Rows.tagTellsSpec.vars false (#[.int .u8 0, .slice none 0 0] : Array Value).toList 8 = some ([.lit (.int .u8 0), .nil], [], places) :=
  ⟨[], by kernel_rfl⟩
set_option maxRecDepth 100000 in
theorem lifted (os : Os) (started : os.Started) (H : Type) (enc : TypeId × Value → H) (F : Stop.Interp) :
    ReturnsInHanded {} Tryd.checked os 4 .any ((OpenSpec.ofChange Rows.tagTellsSpec).preRow enc Tryd.prog Tryd.f4 Rows.tagTellsRow.domain false Rows.tagTellsRow.laid) (((OpenSpec.ofChange Rows.tagTellsSpec).at F).post enc Tryd.prog Tryd.f4 false true false false) := by
  obtain ⟨places, hx⟩ := reads os enc
  refine returnsInHanded_of_row (C := Tryd.checked) (s := OpenSpec.ofChange Rows.tagTellsSpec) own started (by kernel_rfl) Tryd.func4
    (witness_row_at (enc := enc) (C := Tryd.checked) false (laidWorld os) #[.int .u8 0, .slice none 0 0] rfl (by kernel_rfl) (by kernel_rfl) (by kernel_rfl)
      (OpenSpec.preRow_of_cond 8 hx (by kernel_rfl) (fun k hk => by cases hk) (by kernel_rfl) (laid_met os))) ?_
  intro W base args ds gs before hval hW _ _ _ hL _ _
  exact contract H enc W base args ds gs before hval hW hL
theorem said : Rows.TagTellsSaid :=
  OpenClaim.holds_of_cond 4 Tryd.f4 rfl rfl rfl rfl rfl rfl rfl ⟨rfl, rfl, rfl, rfl, rfl⟩ rfl rfl rfl rfl rfl (by kernel_rfl) Tryd.func4 (by kernel_rfl)
    (of_decide_eq_true (by kernel_rfl)) (by unfold Func.isWrapper; first | (rw [if_pos (by decide +kernel)]; kernel_rfl) | (rw [if_neg (by decide +kernel)]; exact ⟨rfl, rfl⟩))
    (fun os started H enc _ F => by rw [OpenClaim.pre_eq_preRow]; exact lifted os started H enc F)
/-- No parameter wants a stand-in; the program's own looks are off: what the card asks. -/
theorem plain (f : FuncId) (fn : Func) (hf : Tryd.pinned.checked.prog.funcNamed "beadroll/beadrolllaw03.TagTells" = some f) (hfn : Tryd.pinned.checked.prog.funcs[f]? = some fn) :
    false = Tryd.pinned.checked.prog.looks [] ∧ ∀ (j : Nat) t, fn.params[j]? = some t → Tryd.pinned.checked.prog.wantsStandIn t = false := by
  obtain rfl : f = 4 := Option.some.inj ((show Tryd.prog.funcNamed "beadroll/beadrolllaw03.TagTells" = some 4 by kernel_rfl).symm.trans hf) |>.symm
  obtain rfl : fn = Tryd.f4 := (Option.some.inj (Tryd.func4.symm.trans hfn)).symm
  refine ⟨by kernel_rfl, fun j t ht => ?_⟩
  rw [Tryd.params4] at ht
  have hm := Array.mem_of_getElem? ht
  simp only [List.mem_toArray, List.mem_cons, List.not_mem_nil, or_false] at hm
  rcases hm with rfl | rfl
  all_goals first | exact (show Tryd.prog.wantsStandIn 5 = false by kernel_rfl) | exact (show Tryd.prog.wantsStandIn 22 = false by kernel_rfl)
/-- ████ THE CARD ████ -/
theorem proved : Rows.TagTellsCardSaid :=
  Claim7.holds_tied_plain_at .later [] _ _ _ _ said (fun _ h => by cases h) (by kernel_rfl) (fun _ h => by cases h) tagTells_row_tie rfl ⟨rfl, rfl⟩ (by kernel_rfl) rfl plain (by kernel_rfl)
#print axioms proved
end Go.Proofs.YtliahdlllmnkkaaDoor.tagTells
