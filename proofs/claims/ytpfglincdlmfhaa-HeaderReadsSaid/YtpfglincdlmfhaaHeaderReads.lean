/-
  The Go function HeaderReads returns true: the header of bytes, or the error, is the document's: any bytes; they stay; its arguments read afterwards as before.
  Conditions: none. The frame around the walk was written by program (proof-skeleton.mjs).
-/
import Derived.Test.YtpfglincdlmfhaaRows
import Derived.WalkKit
import Derived.ProofKit
import Derived.OpenShut
import Derived.ShutString
import Derived.ChangeOld
import Derived.Below
import Derived.Test.YtpfglincdlmfhaaHdA
import Derived.Test.YtpfglincdlmfhaaHdQ
import Derived.Test.YtpfglincdlmfhaaRef14b
import Derived.Test.YtpfglincdlmfhaaBits
namespace Go.Proofs.Ytpfglincdlmfhaa.headerReads
open Go.ChangeShapes Go.WideShapes Go.ChangeAt Go.RowKit
open Go.ChangeMaps (open_string shut_string)
set_option linter.unusedVariables false

theorem own : ownKnob Try.prog.godebug = none := by kernel_rfl
theorem laidOut : laidOutB Try.prog = true := by kernel_rfl

/-- WHAT THE WALK IS TOLD OF A SLICE OF INTEGERS THAT CAME IN: it is nil; or it leads to a row of 'cap' cells, the numbers 'zs' (the first 'len' are its elements, the rest its spare room), each fitting its kind. -/
def IsRow (k : IntKind) (w : World) (a : Option Addr) (len cap : Nat) (zs : List Int) : Prop :=
  (a = none ∧ len = 0 ∧ cap = 0 ∧ zs = []) ∨
  ∃ x, a = some x ∧ len ≤ cap ∧ cap ≤ maxLen ∧ zs.length = cap ∧ (∀ i, i < zs.length → w.cell? (x.add i) = some (.int k (zs.getD i 0))) ∧ ∀ n ∈ zs, (Lit.int k n).wf = true

/-! ### the walk -/
open Go.Proofs.Ytpfglincdlmfhaa
set_option linter.unusedSimpArgs false
set_option maxRecDepth 100000 in
set_option maxHeartbeats 8000000 in
theorem walk (a0 : Option Addr) (len0 cap0 : Nat) (z0 : List Int) (w : World) (w0 : IsRow .u8 w a0 len0 cap0 z0) :
    Calls Try.prog 3 #[.slice a0 len0 cap0] w fun e w' => e = .returned (.bool true) ∧ Below w.heap.size w w' := by
  obtain ⟨b, rfl, hv, hvd, hdm⟩ := rd_of_row w0
  have huh := Try.underlying27
  have W0 := hid (Below.refl w.heap.size w)
  have V0 := hid hv
  clear hv w0
  by_cases h100 : 300 < b.length
  · have q1 : decide ((300 : Int) < (b.length : Int)) = true := decide_eq_true (by omega)
    go_enter Try.func3, Try.ntmps3
    go_wp2
    go_ret
    exact ⟨rfl, W0.out⟩
  have q1 : decide ((300 : Int) < (b.length : Int)) = false := decide_eq_false (by omega)
  have hTw := hid (fun W hW => Twin_any a0 b.length cap0 b W hW rfl (by omega))
  have hRp := hid (fun A c W (g1 : Rd W A b) (g2 : b.length ≤ c) (g3 : c ≤ maxLen) => PHdRead_any A c b W g1 g2 g3 (by omega))
  have hRr := hid (fun W (g1 : Rd W a0 b) => RHdRead_any a0 cap0 b W g1 hvd hdm (by omega))
  have hEr : ∀ W, (Op.equalIn 10000 27 (.agg (hdC (readH b)).toArray) (.agg (hdC (readH b)).toArray)).run Try.prog W = .ok true W := fun W => eqhd_is (readH b) (readH b) (readH_ok b) (readH_ok b) true (decide_eq_true rfl) W
  have hSb := hid (fun A c W (g1 : Rd W A b) (g2 : Rd W a0 b) => Same_yes A a0 b.length b.length c cap0 b b W g1 g2 rfl rfl rfl)
  have ngx := hid (one_hd (readH b))
  have jgx := hid (sizeHd (readH b))
  have agx := hid (sizeHdA (readH b))
  have zgx := hid (zSizeHd (readH b))
  obtain ⟨gx, hgx⟩ : ∃ y, readH b = y := ⟨_, rfl⟩
  rw [hgx] at ngx jgx agx zgx
  rw [hgx] at hEr hRp hRr
  clear hgx
  generalize readHE b = ge at *
  have bG : (ge == ge) = true := beq_self_eq_true ge
  go_enter Try.func3, Try.ntmps3
  go_wp2_with fail
  refine (hTw.out _ V0.out).mono ?_
  rintro e w1 ⟨A1, c1, rfl, hO, hb⟩
  have V1 := hid (V0.out.bel hb)
  have W1 := hid (W0.out.trans (hb.mono W0.out.size))
  clear V0 W0
  have O1 := hid hO.rd
  have o1 := hid hO.cap
  clear hb hO
  go_wp2_with fail
  refine (hRp.out _ _ _ O1.out o1.out.1 o1.out.2).mono ?_
  rintro e w2 ⟨rfl, hb⟩
  have V2 := hid (V1.out.bel hb)
  have W2 := hid (W1.out.trans (hb.mono W1.out.size))
  have O2 := hid (O1.out.bel hb)
  clear V1 W1 O1
  clear hb 
  have e2 := hid (heap_alloc_new w2 (.cells zHdC 27))
  go_wp2_with (first
    | (with_reducible refine wpList_alloc_row rfl 27 rfl zHdC zInfoHd ?_)
    | ((with_reducible refine wpList_store_row rfl 27 (.tmp 4) (.tmp 16) rfl _ _ rfl rfl 27 zHdC ?_ ?_ ?_ ?_ ?_); exact e2.out; exact agx.out; exact zgx.out; exact ngx.out; intro w3 hgS hbS hsS; have X3 := hid (xnewP rfl hbS); have Q3 := hid (rangeOf (l := hdC gx) hgS); clear hgS hbS hsS; have V3 := hid (V2.out.bel X3.out); have W3 := hid (W2.out.trans (X3.out.mono W2.out.size)); have O3 := hid (O2.out.bel X3.out); clear V2 W2 O2))
  refine (hRr.out _ V3.out).mono ?_
  rintro e w4 ⟨rfl, hb⟩
  have V4 := hid (V3.out.bel hb)
  have W4 := hid (W3.out.trans (hb.mono W3.out.size))
  have O4 := hid (O3.out.bel hb)
  have Q4 := hid (rangeBel2 hb Q3.out)
  clear V3 W3 O3 Q3
  clear hb 
  have e4 := hid (heap_alloc_new w4 (.cells zHdC 27))
  go_wp2_with (first
    | (with_reducible refine wpList_alloc_row rfl 27 rfl zHdC zInfoHd ?_)
    | ((with_reducible refine wpList_store_row rfl 27 (.tmp 6) (.tmp 21) rfl _ _ rfl rfl 27 zHdC ?_ ?_ ?_ ?_ ?_); exact e4.out; exact agx.out; exact zgx.out; exact ngx.out; intro w5 hgS hbS hsS; have X5 := hid (xnewP rfl hbS); have U5 := hid (rangeOf (l := hdC gx) hgS); clear hgS hbS hsS; have V5 := hid (V4.out.bel X5.out); have W5 := hid (W4.out.trans (X5.out.mono W4.out.size)); have O5 := hid (O4.out.bel X5.out); have Q5 := hid (rangeBel2 X5.out Q4.out); clear V4 W4 O4 Q4)
    | ((with_reducible refine wpList_load_rng rfl 27 (.tmp 4) rfl _ 0 rfl (hdC gx) _ ?_ huh rfl jgx.out ?_); exact Q5.out)
    | ((with_reducible refine wpList_load_rng rfl 27 (.tmp 6) rfl _ 0 rfl (hdC gx) _ ?_ huh rfl jgx.out ?_); exact U5.out)
    | ((with_reducible refine wpList_load_rng ?_ 27 (.tmp 4) rfl _ 0 rfl (hdC gx) _ ?_ huh rfl jgx.out ?_); rfl; exact Q5.out)
    | ((with_reducible refine wpList_load_rng ?_ 27 (.tmp 6) rfl _ 0 rfl (hdC gx) _ ?_ huh rfl jgx.out ?_); rfl; exact U5.out))
  refine (hSb.out _ _ _ O5.out V5.out).mono ?_
  rintro e w6 ⟨rfl, rfl⟩
  go_wp2
  go_ret
  exact ⟨rfl, W5.out⟩

/-! ### THE ROW's STEP: WRITTEN OUT: LEAVE IT -/
set_option maxRecDepth 100000 in
theorem lifted (os : Os) (started : os.Started) (H : Type) (enc : TypeId × Value → H) :
    ReturnsInHanded {} Try.checked os 3 .any (Rows.headerReadsSpec.pre6 enc Try.prog Try.f3 Rows.headerReadsRow.domain false) (Rows.headerReadsSpec.post enc Try.prog Try.f3 false true false false) := by
  refine returnsInHanded_of_change (C := Try.checked) own started (by kernel_rfl) Try.func3
    (ChangeSpec.witness6 (enc := enc) (C := Try.checked) false ⟨#[], #[.slice none 0 0], []⟩ 8 (by kernel_rfl) (by kernel_rfl) (by kernel_rfl) (by kernel_rfl)) ?_
  intro W base args ds gs before hval0 hW hcnd _
  have hval : ∀ (j : Nat) t v, Try.f3.params[j]? = some t → args[j]? = some v → Value.okWide Try.prog W .any base t v := hval0
  have hW' := hW
  obtain ⟨p, q, hA0, hV, rfl, hfz, hnd⟩ := hW
  have hA : DataW.TrodAll enc Try.prog W 0 (fun _ => true) true Try.f3.params.toList args.toList ds p := hA0
  rw [Try.params3] at hA hval
  obtain ⟨v0, vs0, d0, ds0, p0, q0, hargs, rfl, rfl, h0, r0⟩ := trodAll_cons hA
  obtain ⟨rfl, rfl, rfl⟩ := trodAll_nil r0
  obtain rfl : args = #[v0] := by cases args; simp_all
  obtain ⟨rfl, rfl⟩ := trodVars_none hV
  obtain ⟨a0, len0, cap0, rfl⟩ := okWide_slice Try.underlying22 (hval 0 22 v0 rfl rfl)
  have k0 := h0
  have lt0 : ∀ x ∈ p0, x.block < W.heap.size := by obtain ⟨m, hm⟩ := k0; exact DataW.trod_lt m _ _ _ hm
  obtain ⟨z0, w0⟩ : ∃ zs, IsRow .u8 W a0 len0 cap0 zs := by
    obtain ⟨fuel, hf⟩ := h0
    rcases open_ints Try.underlying22 Try.underlying5 (by kernel_rfl) hf with ⟨hcs, _⟩ | ⟨x, l, c, zs, hcs, _, hl, hm, hz, _, hcell, hwz⟩
    · simp [Value.cells] at hcs
      obtain ⟨rfl, rfl, rfl⟩ := hcs
      exact ⟨[], .inl ⟨rfl, rfl, rfl, rfl⟩⟩
    · simp [Value.cells] at hcs
      obtain ⟨rfl, rfl, rfl⟩ := hcs
      exact ⟨zs, .inr ⟨_, rfl, hl, hm, by simpa using hz, hcell, hwz⟩⟩
  clear hA0 hval0
  refine (walk a0 len0 cap0 z0 W w0).mono fun e W' ⟨he, bel⟩ => ?_
  subst he
  exact ⟨_, rfl, _, _, _, [], _, [], hW', trodAll_mk1 (shut_bool Try.underlying4 _), (trodAll_cons_mk (Below.trod laidOut (by kernel_rfl) (of_decide_eq_true (by kernel_rfl)) k0 bel lt0) trodAll_mk0), rfl, bel.frame _, fun h => by cases h⟩

theorem over : Rows.headerReadsRow.holds Try.pinned (OpenSpec.ofChange Rows.headerReadsSpec) :=
  OpenClaim.holds_of_wide 3 Try.f3 rfl rfl rfl rfl rfl rfl rfl ⟨rfl, rfl, rfl, rfl, rfl⟩ rfl rfl rfl rfl rfl (by kernel_rfl) Try.func3 (by kernel_rfl)
    (of_decide_eq_true (by kernel_rfl)) (by unfold Func.isWrapper; first | (rw [if_pos (by decide +kernel)]; kernel_rfl) | (rw [if_neg (by decide +kernel)]; exact ⟨rfl, rfl⟩))
    (fun os started H enc _ => lifted os started H enc)

/-- ████ THE STATEMENT ████ -/
theorem proved : Rows.HeaderReadsSaid := over
#print axioms proved
end Go.Proofs.Ytpfglincdlmfhaa.headerReads
