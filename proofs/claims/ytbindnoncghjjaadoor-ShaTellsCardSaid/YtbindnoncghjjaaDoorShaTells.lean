/-
  Whatever the two texts of bytes, the Go function ShaTells returns true and its arguments read as before: the digest of two parts is the document's digest of them, one behind the other; the parts stay.
  Conditions: none. The frame around the walk was written by program (proof-skeleton.mjs).
-/
import Derived.Test.YtbindnoncghjjaaDoorRows
import Derived.Test.YtbindnoncghjjaaDoorDoor
import Derived.WalkKit
import Derived.ProofKit
import Derived.OpenShut
import Derived.ShutString
import Derived.ChangeOld
import Derived.Below
import Derived.Test.YtbindnoncghjjaaDoorAlive02
import Derived.Test.YtbindnoncghjjaaDoorEqD
import Derived.Deep.RegionHeld3
namespace Go.Proofs.YtbindnoncghjjaaDoor.shaTells
open Go.ChangeShapes Go.WideShapes Go.ChangeAt Go.RowKit
open Go.ChangeMaps (open_string shut_string)
set_option linter.unusedVariables false

theorem own : ownKnob Tryd.prog.godebug = none := by kernel_rfl
theorem laidOut : laidOutB Tryd.prog = true := by kernel_rfl

/-- WHAT THE WALK IS TOLD OF A SLICE OF INTEGERS THAT CAME IN: it is nil; or it leads to a row of 'cap' cells, the numbers 'zs' (the first 'len' are its elements, the rest its spare room), each fitting its kind. -/
def IsRow (k : IntKind) (w : World) (a : Option Addr) (len cap : Nat) (zs : List Int) : Prop :=
  (a = none ∧ len = 0 ∧ cap = 0 ∧ zs = []) ∨
  ∃ x, a = some x ∧ len ≤ cap ∧ cap ≤ maxLen ∧ zs.length = cap ∧ (∀ i, i < zs.length → w.cell? (x.add i) = some (.int k (zs.getD i 0))) ∧ ∀ n ∈ zs, (Lit.int k n).wf = true

/-! ### the walk -/
open Go.Proofs.YtbindnoncghjjaaDoor
theorem range_of {w : World} {g : Nat} {l : List Value} {t : TypeId} (h : w.heap[g]? = some (.cells l.toArray t (0, 0))) : w.rangeAt g 0 l := fun j v hv => by
  rw [Nat.zero_add, block_cell h, List.getElem?_toArray]; exact hv
theorem range_bel {w w' : World} {g : Nat} {l : List Value} (hb : Below w.heap.size w w') (h : w.rangeAt g 0 l) : w'.rangeAt g 0 l := fun j v hv =>
  (hb.cell (p := ⟨g, 0 + j, none⟩) (World.block_lt_of_cell? _ _ (h j v hv))).trans (h j v hv)
theorem rds_drew {w : World} {A : Option Addr} {ls : List (List UInt8)} (h : Rds w A ls) : Rds w.drew A ls := h
set_option maxRecDepth 100000 in
set_option maxHeartbeats 1000000 in
theorem walk (a0 : Option Addr) (len0 cap0 : Nat) (z0 : List Int) (a1 : Option Addr) (len1 cap1 : Nat) (z1 : List Int) (w : World) (w0 : IsRow .u8 w a0 len0 cap0 z0) (w1 : IsRow .u8 w a1 len1 cap1 z1) (hT : Tab w) :
    Calls Tryd.prog 4 #[.slice a0 len0 cap0, .slice a1 len1 cap1] w fun e w' => e = .returned (.bool true) ∧ Below w.heap.size w w' := by
  obtain ⟨a, hla, hra, hca, hma⟩ := rd_of_row w0
  obtain ⟨b, hlb, hrb, hcb, hmb⟩ := rd_of_row w1
  clear w0 w1
  subst hla hlb
  have hw0 := hT.low
  replace hT := hid hT
  by_cases h7 : 700 < a.length
  · go_enter Tryd.func4, Tryd.ntmps4
    go_wp2
    go_ret
    exact ⟨rfl, Below.refl _ _⟩
  have h7' : a.length ≤ 700 := by omega
  clear h7
  by_cases h8 : 700 < b.length
  · go_enter Tryd.func4, Tryd.ntmps4
    go_wp2
    go_ret
    exact ⟨rfl, Below.refl _ _⟩
  have h8' : b.length ≤ 700 := by omega
  clear h8
  go_enter Tryd.func4, Tryd.ntmps4
  go_wp2_with fail
  refine (Twin_any _ _ _ a _ hra rfl (by omega)).mono ?_
  rintro e w2 ⟨A2, c2, rfl, ho2, hb2⟩
  have ra := hra.bel hb2
  have rb := hrb.bel hb2
  go_wp2_with fail
  refine (Twin_any _ _ _ b _ rb rfl (by omega)).mono ?_
  rintro e w3 ⟨A3, c3, rfl, ho3, hb3⟩
  replace ra := hid (ra.bel hb3)
  replace rb := hid (rb.bel hb3)
  have k2 := ho2.cap
  have k3 := ho3.cap
  have r2 := hid (ho2.rd.bel hb3)
  have r3 := hid ho3.rd
  have W3 := ext_trans hb2 hb3
  clear ho2 ho3 hb2 hb3 hra hrb
  go_wp2_with fail
  refine (Of_any _ _ _ [a, b] _ ?_ rfl (by simp) (by simp; omega) ?_).mono ?_
  · exact Rds.lit _ _ [(A2, c2, a), (A3, c3, b)] _ _ rfl rfl (by
      intro x hx
      simp at hx
      rcases hx with rfl | rfl
      · exact ⟨r2.out, k2⟩
      · exact ⟨r3.out, k3⟩)
  · exact hT.out.bel (g := w.heap.size) (by (repeat (first | exact Below.refl _ _ | assumption | refine ext_trans ?_ (by assumption) | refine ext_trans ?_ (ext_alloc _ _)))) hw0
  rintro e w4 ⟨rfl, hb4⟩
  have B4 : Below w3.heap.size w3 w4 := by (repeat (first | exact Below.refl _ _ | assumption | refine ext_trans ?_ (by assumption) | refine ext_trans ?_ (ext_alloc _ _)))
  have W4 := ext_trans W3 B4
  clear hb4
  obtain ⟨ab, hab⟩ : ∃ ab, ab = [a, b].flatten := ⟨_, rfl⟩
  have lab : ab.length ≤ 1400 := by rw [hab]; simp; omega
  rw [← hab]
  replace hab := hid hab
  obtain ⟨dg, hdg⟩ : ∃ dg, dg = sha256 ab := ⟨_, rfl⟩
  rw [← hdg]
  have ld : dg.length = 32 := by rw [hdg]; exact S8.bytes_len _
  replace hdg := hid hdg
  have z1 : ((dg.map bv).toArray).size = 32 := by simp [ld]
  have o1 := bvs_all dg
  go_wp2_with (first
    | (with_reducible refine wpList_alloc_row rfl 23 rfl z32 info32 ?_)
    | ((with_reducible refine wpList_store_row rfl 23 (.tmp 7) (.tmp 23) rfl _ _ rfl rfl 23 z32 ?_ ?_ ?_ ?_ ?_); exact heap_alloc_new _ _; (rw [z1]; exact size32); (rw [z1]; exact z32_size); exact o1; intro w5 hg5 hb5 hs5))
  have B5 : Below w4.heap.size w4 w5 := (ext_alloc w4 _).grown hb5 (by simp) (fun k hk => by injection hk with hk; omega)
  have W5 := ext_trans W4 B5
  replace B5 := ext_trans B4 B5
  have r0 := range_of hg5
  clear hb5 hs5 hg5 W4 B4
  generalize w4.heap.size = b4 at *
  replace ra := hid (ra.out.bel B5)
  replace rb := hid (rb.out.bel B5)
  replace r2 := hid (r2.out.bel B5)
  replace r3 := hid (r3.out.bel B5)
  clear B5 W3
  have hu := Tryd.underlying23
  have i0 : (Tryd.prog.info? 23).map (·.size) = some (dg.map bv).length := by rw [List.length_map, ld]; exact size32
  have qx := fun w => eq_dig dg ld w
  replace W5 := hid W5
  clear o1 z1
  go_region_held3 (fun w' => w'.rangeAt b4 0 (dg.map bv) ∧ Below w5.heap.size w5 w') ((go_split_ands; refine ⟨?_, ?_⟩ <;> first | assumption | (simp only [World.rangeAt_drew]; assumption) | (apply World.rangeAt_alloc; assumption) | exact Below.drew (Below.refl _ _) | exact range_bel (by assumption) (by assumption) | exact ext_trans (by assumption) (ext_alloc _ _) | exact ext_trans (by assumption) (by assumption))) (first
    | (go_at_call 13; refine (Joined_any _ _ _ [a, b] _ ?_ rfl (by simp) (by simp; omega)).mono ?_; exact rds_drew (Rds.lit w5 _ [(a0, cap0, a), (a1, cap1, b)] _ _ rfl rfl (by intro x hx; simp at hx; rcases hx with rfl | rfl; exact ⟨ra.out, hca, hma⟩; exact ⟨rb.out, hcb, hmb⟩)); rintro e6 w6 ⟨A6, c6, rfl, ho6, hb6⟩; rw [← hab.out] at ho6 ⊢; have r6 := hid ho6.rd; clear ho6)
    | (go_at_call 12; refine (Sum_any _ _ _ ab _ r6.out rfl (by omega)).mono ?_; rintro e7 w7 ⟨rfl, hb7⟩; rw [← hdg.out])
    | (go_at_call_of 14 (Value.slice A2 a.length c2); go_split_ands; refine (Same_yes _ _ _ _ _ _ a a _ (r2.out.bel (by assumption)) (ra.out.bel (by assumption)) rfl rfl rfl).mono ?_; rintro e8 w8 ⟨rfl, rfl⟩)
    | (go_at_call_of 14 (Value.slice A3 b.length c3); go_split_ands; refine (Same_yes _ _ _ _ _ _ b b _ (r3.out.bel (by assumption)) (rb.out.bel (by assumption)) rfl rfl rfl).mono ?_; rintro e9 w9 ⟨rfl, rfl⟩))
  go_split_ands
  have W7 : Below w.heap.size w w7 := ext_trans W5.out (by assumption)
  go_wp2_with fail
  go_ret
  exact ⟨rfl, W7⟩

/-! ### WHAT THE WALK GIVES, FOR EVERY ARGUMENT AND EVERY WORLD THAT HOLDS THE TABLE -/
set_option maxRecDepth 100000 in
theorem contract (H : Type) (enc : TypeId × Value → H) (W : World) (base : Nat) (args : Array Value) (ds gs : List (DataW H)) (before : List MemPlace)
    (hval0 : ∀ (j : Nat) t v, Tryd.f4.params[j]? = some t → args[j]? = some v → Value.okWide Tryd.prog W .any base t v)
    (hW : DataW.Whole enc Tryd.prog Tryd.f4.params.toList Rows.shaTellsSpec.vars false W args.toList ds gs before) (hL : laidMetH Tryd.prog Rows.shaTellsRow.laid W) :
    Calls Tryd.prog 4 args W fun e W' => ∃ v, e = .returned v ∧ Rows.shaTellsSpec.post enc Tryd.prog Tryd.f4 false true false false W args v W' := by
  have hval : ∀ (j : Nat) t v, Tryd.f4.params[j]? = some t → args[j]? = some v → Value.okWide Tryd.prog W .any base t v := hval0
  have hW' := hW
  obtain ⟨p, q, hA0, hV, rfl, hfz, hnd⟩ := hW
  have hA : DataW.TrodAll enc Tryd.prog W 0 (fun _ => true) true Tryd.f4.params.toList args.toList ds p := hA0
  rw [Tryd.params4] at hA hval
  obtain ⟨v0, vs0, d0, ds0, p0, q0, hargs, rfl, rfl, h0, r0⟩ := trodAll_cons hA
  obtain ⟨v1, vs1, d1, ds1, p1, q1, rfl, rfl, rfl, h1, r1⟩ := trodAll_cons r0
  obtain ⟨rfl, rfl, rfl⟩ := trodAll_nil r1
  obtain rfl : args = #[v0, v1] := by cases args; simp_all
  obtain ⟨rfl, rfl⟩ := trodVars_none hV
  obtain ⟨a0, len0, cap0, rfl⟩ := okWide_slice Tryd.underlying25 (hval 0 25 v0 rfl rfl)
  have k0 := h0
  have lt0 : ∀ x ∈ p0, x.block < W.heap.size := by obtain ⟨m, hm⟩ := k0; exact DataW.trod_lt m _ _ _ hm
  obtain ⟨z0, w0⟩ : ∃ zs, IsRow .u8 W a0 len0 cap0 zs := by
    obtain ⟨fuel, hf⟩ := h0
    rcases open_ints Tryd.underlying25 Tryd.underlying5 (by kernel_rfl) hf with ⟨hcs, _⟩ | ⟨x, l, c, zs, hcs, _, hl, hm, hz, _, hcell, hwz⟩
    · simp [Value.cells] at hcs
      obtain ⟨rfl, rfl, rfl⟩ := hcs
      exact ⟨[], .inl ⟨rfl, rfl, rfl, rfl⟩⟩
    · simp [Value.cells] at hcs
      obtain ⟨rfl, rfl, rfl⟩ := hcs
      exact ⟨zs, .inr ⟨_, rfl, hl, hm, by simpa using hz, hcell, hwz⟩⟩
  obtain ⟨a1, len1, cap1, rfl⟩ := okWide_slice Tryd.underlying25 (hval 1 25 v1 rfl rfl)
  have k1 := h1
  have lt1 : ∀ x ∈ p1, x.block < W.heap.size := by obtain ⟨m, hm⟩ := k1; exact DataW.trod_lt m _ _ _ hm
  obtain ⟨z1, w1⟩ : ∃ zs, IsRow .u8 W a1 len1 cap1 zs := by
    obtain ⟨fuel, hf⟩ := h1
    rcases open_ints Tryd.underlying25 Tryd.underlying5 (by kernel_rfl) hf with ⟨hcs, _⟩ | ⟨x, l, c, zs, hcs, _, hl, hm, hz, _, hcell, hwz⟩
    · simp [Value.cells] at hcs
      obtain ⟨rfl, rfl, rfl⟩ := hcs
      exact ⟨[], .inl ⟨rfl, rfl, rfl, rfl⟩⟩
    · simp [Value.cells] at hcs
      obtain ⟨rfl, rfl, rfl⟩ := hcs
      exact ⟨zs, .inr ⟨_, rfl, hl, hm, by simpa using hz, hcell, hwz⟩⟩
  clear hA0 hval0
  refine (walk a0 len0 cap0 z0 a1 len1 cap1 z1 W w0 w1 (tab_of hL)).mono fun e W' ⟨he, bel⟩ => ?_
  subst he
  exact ⟨_, rfl, _, _, _, [], _, [], hW', trodAll_mk1 (shut_bool Tryd.underlying4 _), (trodAll_cons_mk (Below.trod laidOut (by kernel_rfl) (of_decide_eq_true (by kernel_rfl)) k0 bel lt0) (trodAll_cons_mk (Below.trod laidOut (by kernel_rfl) (of_decide_eq_true (by kernel_rfl)) k1 bel lt1) trodAll_mk0)), rfl, bel.frame _, fun h => by cases h⟩

theorem laid_met (os : Os) : laidMet Tryd.prog Rows.shaTellsRow.laid ((laidWorld os).forCall (fun _ _ => 0) ⟨#[], #[.slice none 0 0, .slice none 0 0], []⟩).memory :=
  laidMet_of_run' 8 (by kernel_rfl) (by kernel_rfl)
theorem reads (os : Os) {H : Type} (enc : TypeId × Value → H) : ∃ places, DataW.whole enc Tryd.prog ((laidWorld os).forCall (fun _ _ => 0) ⟨#[], #[.slice none 0 0, .slice none 0 0], []⟩).memory Tryd.f4.params.toList Rows.shaTellsSpec.vars false (#[.slice none 0 0, .slice none 0 0] : Array Value).toList 8 = some ([.nil, .nil], [], places) :=
  ⟨[], by kernel_rfl⟩
set_option maxRecDepth 100000 in
theorem lifted (os : Os) (started : os.Started) (H : Type) (enc : TypeId × Value → H) (F : Stop.Interp) :
    ReturnsInHanded {} Tryd.checked os 4 .any ((OpenSpec.ofChange Rows.shaTellsSpec).preRow enc Tryd.prog Tryd.f4 Rows.shaTellsRow.domain false Rows.shaTellsRow.laid) (((OpenSpec.ofChange Rows.shaTellsSpec).at F).post enc Tryd.prog Tryd.f4 false true false false) := by
  obtain ⟨places, hx⟩ := reads os enc
  refine returnsInHanded_of_row (C := Tryd.checked) (s := OpenSpec.ofChange Rows.shaTellsSpec) own started (by kernel_rfl) Tryd.func4
    (witness_row_at (enc := enc) (C := Tryd.checked) false (laidWorld os) #[.slice none 0 0, .slice none 0 0] rfl (by kernel_rfl) (by kernel_rfl) (by kernel_rfl)
      (OpenSpec.preRow_of_cond 8 hx (by kernel_rfl) (fun k hk => by cases hk) (by kernel_rfl) (laid_met os))) ?_
  intro W base args ds gs before hval hW _ _ _ hL _ _
  exact contract H enc W base args ds gs before hval hW hL
theorem said : Rows.ShaTellsSaid :=
  OpenClaim.holds_of_cond 4 Tryd.f4 rfl rfl rfl rfl rfl rfl rfl ⟨rfl, rfl, rfl, rfl, rfl⟩ rfl rfl rfl rfl rfl (by kernel_rfl) Tryd.func4 (by kernel_rfl)
    (of_decide_eq_true (by kernel_rfl)) (by unfold Func.isWrapper; first | (rw [if_pos (by decide +kernel)]; kernel_rfl) | (rw [if_neg (by decide +kernel)]; exact ⟨rfl, rfl⟩))
    (fun os started H enc _ F => by rw [OpenClaim.pre_eq_preRow]; exact lifted os started H enc F)
/-- No parameter wants a stand-in; the program's own looks are off: what the card asks. -/
theorem plain (f : FuncId) (fn : Func) (hf : Tryd.pinned.checked.prog.funcNamed "beadroll/beadrolllaw02.ShaTells" = some f) (hfn : Tryd.pinned.checked.prog.funcs[f]? = some fn) :
    false = Tryd.pinned.checked.prog.looks [] ∧ ∀ (j : Nat) t, fn.params[j]? = some t → Tryd.pinned.checked.prog.wantsStandIn t = false := by
  obtain rfl : f = 4 := Option.some.inj ((show Tryd.prog.funcNamed "beadroll/beadrolllaw02.ShaTells" = some 4 by kernel_rfl).symm.trans hf) |>.symm
  obtain rfl : fn = Tryd.f4 := (Option.some.inj (Tryd.func4.symm.trans hfn)).symm
  refine ⟨by kernel_rfl, fun j t ht => ?_⟩
  rw [Tryd.params4] at ht
  have hm := Array.mem_of_getElem? ht
  simp only [List.mem_toArray, List.mem_cons, List.not_mem_nil, or_false] at hm
  rcases hm with rfl | rfl
  all_goals first | exact (show Tryd.prog.wantsStandIn 25 = false by kernel_rfl)
/-- ████ THE CARD ████ -/
theorem proved : Rows.ShaTellsCardSaid :=
  Claim7.holds_tied_plain_at .later [] _ _ _ _ said (fun _ h => by cases h) (by kernel_rfl) (fun _ h => by cases h) shaTells_row_tie rfl ⟨rfl, rfl⟩ (by kernel_rfl) rfl plain (by kernel_rfl)
#print axioms proved
end Go.Proofs.YtbindnoncghjjaaDoor.shaTells
