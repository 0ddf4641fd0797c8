/-
  The Go function TxReads returns true: the transaction of bytes, or the error, is the document's: any bytes; they stay; its argument reads afterwards as before.
  Conditions: none. The frame around the walk was written by program (proof-skeleton.mjs).
-/
import Derived.Test.YtaegdiggmgifiaaDoorRows
import Derived.Test.YtaegdiggmgifiaaDoorDoor
import Derived.WalkKit
import Derived.ProofKit
import Derived.OpenShut
import Derived.ShutString
import Derived.ChangeOld
import Derived.Below
import Derived.Test.YtaegdiggmgifiaaDoorTxG
import Derived.Test.YtaegdiggmgifiaaDoorTxQ
import Derived.Test.YtaegdiggmgifiaaDoorRef11b
import Derived.Test.YtaegdiggmgifiaaDoorBits
namespace Go.Proofs.YtaegdiggmgifiaaDoor.txReads
open Go.ChangeShapes Go.WideShapes Go.ChangeAt Go.RowKit
open Go.ChangeMaps (open_string shut_string)
set_option linter.unusedVariables false

theorem own : ownKnob Tryd.prog.godebug = none := by kernel_rfl
theorem laidOut : laidOutB Tryd.prog = true := by kernel_rfl

/-- WHAT THE WALK IS TOLD OF A SLICE OF INTEGERS THAT CAME IN: it is nil; or it leads to a row of 'cap' cells, the numbers 'zs' (the first 'len' are its elements, the rest its spare room), each fitting its kind. -/
def IsRow (k : IntKind) (w : World) (a : Option Addr) (len cap : Nat) (zs : List Int) : Prop :=
  (a = none ∧ len = 0 ∧ cap = 0 ∧ zs = []) ∨
  ∃ x, a = some x ∧ len ≤ cap ∧ cap ≤ maxLen ∧ zs.length = cap ∧ (∀ i, i < zs.length → w.cell? (x.add i) = some (.int k (zs.getD i 0))) ∧ ∀ n ∈ zs, (Lit.int k n).wf = true

/-! ### the walk -/
open Go.Proofs.YtaegdiggmgifiaaDoor
set_option linter.unusedSimpArgs false
set_option maxRecDepth 100000 in
set_option maxHeartbeats 8000000 in
theorem walk (a0 : Option Addr) (len0 cap0 : Nat) (z0 : List Int) (w : World) (w0 : IsRow .u8 w a0 len0 cap0 z0) (hT : Tab w) :
    Calls Tryd.prog 5 #[.slice a0 len0 cap0] w fun e w' => e = .returned (.bool true) ∧ Below w.heap.size w w' := by
  obtain ⟨b, rfl, hv, hvd, hdm⟩ := rd_of_row w0
  have hbl : b.length ≤ 9223372036854775807 := by unfold maxLen at hdm; omega
  have hux := Tryd.underlying26
  have W0 := hid (Below.refl w.heap.size w)
  have V0 := hid hv
  have H0 := hid hT
  have hlow := hid hT.low
  clear hv hT w0
  by_cases h300 : 300 < b.length
  · have q1 : decide ((300 : Int) < (b.length : Int)) = true := decide_eq_true (by omega)
    go_enter Tryd.func5, Tryd.ntmps5
    go_wp2
    go_ret
    exact ⟨rfl, W0.out⟩
  have q1 : decide ((300 : Int) < (b.length : Int)) = false := decide_eq_false (by omega)
  have hTw := hid (fun W hW => Twin_any a0 b.length cap0 b W hW rfl (by omega))
  have hPR := hid (fun A c W (g1 : Rd W A b) (g2 : b.length ≤ c) (g3 : c ≤ maxLen) hT => PTxRead_any A c b W g1 g2 g3 hT)
  have hRR := hid (fun W (g1 : Rd W a0 b) => RTxRead_any a0 cap0 b W g1 hvd hdm (by omega))
  have hSb := hid (fun A D c d W (g1 : Rd W A b) (g2 : Rd W D b) => Same_yes A D b.length b.length c d b b W g1 g2 rfl rfl rfl)
  have hEx : ∀ W, (Op.equalIn 10000 26 (.agg (txC (readX b)).toArray) (.agg (txC (readX b)).toArray)).run Tryd.prog W = .ok true W := fun W => eqtx_is (readX b) (readX b) (readX_ok b) (readX_ok b) true (decide_eq_true rfl) W
  have ngx := hid (one_tx (readX b))
  have jgx := hid (sizeTx (readX b))
  have agx := hid (sizeTxA (readX b))
  have zgx := hid (zSizeTx (readX b))
  obtain ⟨gx, hgx⟩ : ∃ y, readX b = y := ⟨_, rfl⟩
  rw [hgx] at ngx jgx agx zgx
  rw [hgx] at hEx hPR hRR
  clear hgx
  generalize readXE b = ge at *
  go_enter Tryd.func5, Tryd.ntmps5
  go_wp2_with fail
  refine (hTw.out _ V0.out).mono ?_
  rintro e w1 ⟨A1, c1, rfl, hO, hb⟩
  have V1 := hid (V0.out.bel hb)
  have H1 := hid (H0.out.bel hb hlow.out)
  have W1 := hid (W0.out.trans hb)
  clear V0 H0 W0
  have O1 := hid hO.rd
  have o1 := hid hO.cap
  clear hb hO hTw
  go_wp2_with fail
  refine (hPR.out _ _ _ O1.out o1.out.1 o1.out.2 H1.out).mono ?_
  rintro e w2 ⟨rfl, hb⟩
  have V2 := hid (V1.out.bel hb)
  have H2 := hid (H1.out.bel hb (Nat.lt_of_lt_of_le hlow.out W1.out.size))
  have W2 := hid (W1.out.trans (hb.mono W1.out.size))
  have O2 := hid (O1.out.bel hb)
  clear V1 H1 W1 O1
  clear hb hPR
  have e2 := hid (heap_alloc_new w2 (.cells zTxC 26))
  go_wp2_with (first
    | (with_reducible refine wpList_alloc_row rfl 26 rfl zTxC zInfoTx ?_)
    | ((with_reducible refine wpList_store_row rfl 26 (.tmp 4) (.tmp 16) rfl w2.heap.size _ rfl rfl 26 zTxC ?_ ?_ ?_ ?_ ?_); exact e2.out; exact agx.out; exact zgx.out; exact ngx.out; intro w3 hgS hbS hsS; have X3 := hid (xnewP rfl hbS); have Q3 := hid (rangeOf (l := txC gx) hgS); clear hgS hbS hsS; have V3 := hid (V2.out.bel X3.out); have H3 := hid (H2.out.bel X3.out (Nat.lt_of_lt_of_le hlow.out W2.out.size)); have W3 := hid (W2.out.trans (X3.out.mono W2.out.size)); have O3 := hid (O2.out.bel X3.out); clear V2 H2 W2 O2))
  refine (hRR.out _ V3.out).mono ?_
  rintro e w4 ⟨rfl, hb⟩
  have V4 := hid (V3.out.bel hb)
  have H4 := hid (H3.out.bel hb (Nat.lt_of_lt_of_le hlow.out W3.out.size))
  have W4 := hid (W3.out.trans (hb.mono W3.out.size))
  have O4 := hid (O3.out.bel hb)
  have Q4 := hid (rangeBel2 hb Q3.out)
  clear V3 H3 W3 O3 Q3
  clear hb hRR
  have e4 := hid (heap_alloc_new w4 (.cells zTxC 26))
  go_wp2_with (first
    | (with_reducible refine wpList_alloc_row rfl 26 rfl zTxC zInfoTx ?_)
    | ((with_reducible refine wpList_store_row rfl 26 (.tmp 6) (.tmp 21) rfl w4.heap.size _ rfl rfl 26 zTxC ?_ ?_ ?_ ?_ ?_); exact e4.out; exact agx.out; exact zgx.out; exact ngx.out; intro w5 hgS hbS hsS; have X5 := hid (xnewP rfl hbS); have Y5 := hid (rangeOf (l := txC gx) hgS); clear hgS hbS hsS; have V5 := hid (V4.out.bel X5.out); have H5 := hid (H4.out.bel X5.out (Nat.lt_of_lt_of_le hlow.out W4.out.size)); have W5 := hid (W4.out.trans (X5.out.mono W4.out.size)); have O5 := hid (O4.out.bel X5.out); have Q5 := hid (rangeBel2 X5.out Q4.out); clear V4 H4 W4 O4 Q4)
    | ((with_reducible refine wpList_load_rng rfl 26 (.tmp 4) rfl w2.heap.size 0 rfl (txC gx) _ ?_ hux rfl jgx.out ?_); exact Q5.out)
    | ((with_reducible refine wpList_load_rng rfl 26 (.tmp 6) rfl w4.heap.size 0 rfl (txC gx) _ ?_ hux rfl jgx.out ?_); exact Y5.out))
  refine (hSb.out _ _ _ _ _ O5.out V5.out).mono ?_
  rintro e w6 ⟨rfl, rfl⟩
  go_wp2
  go_ret
  exact ⟨rfl, W5.out⟩

/-! ### WHAT THE WALK GIVES, FOR EVERY ARGUMENT AND EVERY WORLD THAT HOLDS THE TABLE -/
set_option maxRecDepth 100000 in
theorem contract (H : Type) (enc : TypeId × Value → H) (W : World) (base : Nat) (args : Array Value) (ds gs : List (DataW H)) (before : List MemPlace)
    (hval0 : ∀ (j : Nat) t v, Tryd.f5.params[j]? = some t → args[j]? = some v → Value.okWide Tryd.prog W .any base t v)
    (hW : DataW.Whole enc Tryd.prog Tryd.f5.params.toList Rows.txReadsSpec.vars false W args.toList ds gs before) (hL : laidMetH Tryd.prog Rows.txReadsRow.laid W) :
    Calls Tryd.prog 5 args W fun e W' => ∃ v, e = .returned v ∧ Rows.txReadsSpec.post enc Tryd.prog Tryd.f5 false true false false W args v W' := by
  have hval : ∀ (j : Nat) t v, Tryd.f5.params[j]? = some t → args[j]? = some v → Value.okWide Tryd.prog W .any base t v := hval0
  have hW' := hW
  obtain ⟨p, q, hA0, hV, rfl, hfz, hnd⟩ := hW
  have hA : DataW.TrodAll enc Tryd.prog W 0 (fun _ => true) true Tryd.f5.params.toList args.toList ds p := hA0
  rw [Tryd.params5] at hA hval
  obtain ⟨v0, vs0, d0, ds0, p0, q0, hargs, rfl, rfl, h0, r0⟩ := trodAll_cons hA
  obtain ⟨rfl, rfl, rfl⟩ := trodAll_nil r0
  obtain rfl : args = #[v0] := by cases args; simp_all
  obtain ⟨rfl, rfl⟩ := trodVars_none hV
  obtain ⟨a0, len0, cap0, rfl⟩ := okWide_slice Tryd.underlying30 (hval 0 30 v0 rfl rfl)
  have k0 := h0
  have lt0 : ∀ x ∈ p0, x.block < W.heap.size := by obtain ⟨m, hm⟩ := k0; exact DataW.trod_lt m _ _ _ hm
  obtain ⟨z0, w0⟩ : ∃ zs, IsRow .u8 W a0 len0 cap0 zs := by
    obtain ⟨fuel, hf⟩ := h0
    rcases open_ints Tryd.underlying30 Tryd.underlying5 (by kernel_rfl) hf with ⟨hcs, _⟩ | ⟨x, l, c, zs, hcs, _, hl, hm, hz, _, hcell, hwz⟩
    · simp [Value.cells] at hcs
      obtain ⟨rfl, rfl, rfl⟩ := hcs
      exact ⟨[], .inl ⟨rfl, rfl, rfl, rfl⟩⟩
    · simp [Value.cells] at hcs
      obtain ⟨rfl, rfl, rfl⟩ := hcs
      exact ⟨zs, .inr ⟨_, rfl, hl, hm, by simpa using hz, hcell, hwz⟩⟩
  clear hA0 hval0
  refine (walk a0 len0 cap0 z0 W w0 (tab_of hL)).mono fun e W' ⟨he, bel⟩ => ?_
  subst he
  exact ⟨_, rfl, _, _, _, [], _, [], hW', trodAll_mk1 (shut_bool Tryd.underlying4 _), (trodAll_cons_mk (Below.trod laidOut (by kernel_rfl) (of_decide_eq_true (by kernel_rfl)) k0 bel lt0) trodAll_mk0), rfl, bel.frame _, fun h => by cases h⟩

theorem laid_met (os : Os) : laidMet Tryd.prog Rows.txReadsRow.laid ((laidWorld os).forCall (fun _ _ => 0) ⟨#[], #[.slice none 0 0], []⟩).memory :=
  laidMet_of_run' 8 (by kernel_rfl) (by kernel_rfl)
theorem reads (os : Os) {H : Type} (enc : TypeId × Value → H) : ∃ places, DataW.whole enc Tryd.prog ((laidWorld os).forCall (fun _ _ => 0) ⟨#[], #[.slice none 0 0], []⟩).memory Tryd.f5.params.toList Rows.txReadsSpec.vars false (#[.slice none 0 0] : Array Value).toList 8 = some ([.nil], [], places) :=
  ⟨[], by kernel_rfl⟩
set_option maxRecDepth 100000 in
theorem lifted (os : Os) (started : os.Started) (H : Type) (enc : TypeId × Value → H) (F : Stop.Interp) :
    ReturnsInHanded {} Tryd.checked os 5 .any ((OpenSpec.ofChange Rows.txReadsSpec).preRow enc Tryd.prog Tryd.f5 Rows.txReadsRow.domain false Rows.txReadsRow.laid) (((OpenSpec.ofChange Rows.txReadsSpec).at F).post enc Tryd.prog Tryd.f5 false true false false) := by
  obtain ⟨places, hx⟩ := reads os enc
  refine returnsInHanded_of_row (C := Tryd.checked) (s := OpenSpec.ofChange Rows.txReadsSpec) own started (by kernel_rfl) Tryd.func5
    (witness_row_at (enc := enc) (C := Tryd.checked) false (laidWorld os) #[.slice none 0 0] rfl (by kernel_rfl) (by kernel_rfl) (by kernel_rfl)
      (OpenSpec.preRow_of_cond 8 hx (by kernel_rfl) (fun k hk => by cases hk) (by kernel_rfl) (laid_met os))) ?_
  intro W base args ds gs before hval hW _ _ _ hL _ _
  exact contract H enc W base args ds gs before hval hW hL
theorem said : Rows.TxReadsSaid :=
  OpenClaim.holds_of_cond 5 Tryd.f5 rfl rfl rfl rfl rfl rfl rfl ⟨rfl, rfl, rfl, rfl, rfl⟩ rfl rfl rfl rfl rfl (by kernel_rfl) Tryd.func5 (by kernel_rfl)
    (of_decide_eq_true (by kernel_rfl)) (by unfold Func.isWrapper; first | (rw [if_pos (by decide +kernel)]; kernel_rfl) | (rw [if_neg (by decide +kernel)]; exact ⟨rfl, rfl⟩))
    (fun os started H enc _ F => by rw [OpenClaim.pre_eq_preRow]; exact lifted os started H enc F)
set_option maxRecDepth 100000 in
/-- No parameter wants a stand-in; the program's own looks are off: what the card asks. -/
theorem plain (f : FuncId) (fn : Func) (hf : Tryd.pinned.checked.prog.funcNamed "beadroll/beadrolllaw11.TxReads" = some f) (hfn : Tryd.pinned.checked.prog.funcs[f]? = some fn) :
    false = Tryd.pinned.checked.prog.looks [] ∧ ∀ (j : Nat) t, fn.params[j]? = some t → Tryd.pinned.checked.prog.wantsStandIn t = false := by
  obtain rfl : f = 5 := Option.some.inj ((show Tryd.prog.funcNamed "beadroll/beadrolllaw11.TxReads" = some 5 by kernel_rfl).symm.trans hf) |>.symm
  obtain rfl : fn = Tryd.f5 := (Option.some.inj (Tryd.func5.symm.trans hfn)).symm
  refine ⟨by kernel_rfl, fun j t ht => ?_⟩
  rw [Tryd.params5] at ht
  have hm := Array.mem_of_getElem? ht
  simp only [List.mem_toArray, List.mem_cons, List.not_mem_nil, or_false] at hm
  rcases hm with rfl
  exact (show Tryd.prog.wantsStandIn 30 = false by kernel_rfl)
set_option maxRecDepth 100000 in
/-- ████ THE CARD ████ -/
theorem proved : Rows.TxReadsCardSaid :=
  Claim7.holds_tied_plain_at .later [] _ _ _ _ said (fun _ h => by cases h) (by kernel_rfl) (fun _ h => by cases h) txReads_row_tie rfl ⟨rfl, rfl⟩ (by kernel_rfl) rfl plain (by kernel_rfl)
#print axioms proved
end Go.Proofs.YtaegdiggmgifiaaDoor.txReads
